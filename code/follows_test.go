package code

import (
	"bytes"
	"encoding/binary"
	"math/rand"
	"reflect"
	"slices"
	"testing"

	"jacquard/api"
)

// told is all that an image has, in the chapter's order, a letter ahead of each thing: m how many, n a number, z one of either sign, s a text.
func told(im api.Image) string {
	var b []byte
	put := func(letter byte, n int) { b = binary.AppendVarint(append(b, letter), int64(n)) }
	numbers := func(l []int) {
		put('m', len(l))
		for _, n := range l {
			put('n', n)
		}
	}
	put('m', len(im.Strs))
	for _, s := range im.Strs {
		put('s', len(s))
		b = append(b, s...)
	}
	put('m', len(im.Keys))
	for _, l := range im.Keys {
		numbers(l)
	}
	put('n', im.Globals)
	put('m', len(im.Funs))
	for _, c := range im.Funs {
		put('n', c.Params)
		put('n', c.Slots)
		numbers(c.Boxes)
		put('m', len(c.Caps))
		for _, p := range c.Caps {
			put('n', p.Own)
			put('n', p.N)
		}
		put('m', len(c.Code))
		for _, i := range c.Code {
			put('n', i.Op)
			put('z', i.A)
			put('z', i.B)
		}
		put('m', len(c.Tries))
		for _, t := range c.Tries {
			for _, n := range []int{t.From, t.To, t.Target, t.Depth} {
				put('n', n)
			}
		}
	}
	return string(b)
}

// model goes through bytes by a text that says what an image is made of: ( ) stand about what there are many of, n, z and s as above. Numbers are read by the library.
type model struct {
	b    []byte
	at   int
	told []byte
	e    api.Errno
}

const madeOf = "(s)((n))n(nn(n)(nn)(nzz)(nnnn))"

func (m *model) fail(e api.Errno, at int) {
	if m.e == api.OK {
		m.e, m.at = e, at
	}
}

func (m *model) number() uint64 {
	if m.e != api.OK {
		return 0
	}
	nine := m.b[m.at:min(m.at+9, len(m.b))]
	n, long := binary.Uvarint(nine)
	switch {
	case long <= 0 && len(nine) < 9:
		m.fail(api.ErrForm, len(m.b))
		return 0
	case long <= 0 || n > 1<<62-1:
		m.fail(api.ErrForm, m.at+8)
		return 0
	case !bytes.Equal(nine[:long], binary.AppendUvarint(nil, n)):
		m.fail(api.ErrForm, m.at+long-1)
		return 0
	}
	m.at += long
	return n
}

func (m *model) many() int {
	first := m.at
	n := m.number()
	if m.e == api.OK && n > uint64(len(m.b)-m.at) {
		m.fail(api.ErrMany, first)
		return 0
	}
	return int(n)
}

func (m *model) put(letter byte, n int64) { m.told = binary.AppendVarint(append(m.told, letter), n) }

// inner is what stands in the ( ) that a text begins with, and what is behind.
func inner(s string) (string, string) {
	open := 0
	for i, c := range s {
		switch c {
		case '(':
			open++
		case ')':
			open--
		}
		if open == 0 {
			return s[1:i], s[i+1:]
		}
	}
	panic(s)
}

func (m *model) read(form string) {
	for form != "" && m.e == api.OK {
		if form[0] == '(' {
			var one string
			one, form = inner(form)
			n := m.many()
			m.put('m', int64(n))
			for i := 0; i < n && m.e == api.OK; i++ {
				m.read(one)
			}
			continue
		}
		switch form[0] {
		case 'n':
			m.put('n', int64(m.number()))
		case 'z':
			n := m.number()
			z, _ := binary.Varint(binary.AppendUvarint(nil, n))
			m.put('z', z)
		case 's':
			n := m.many()
			m.put('s', int64(n))
			m.told = append(m.told, m.b[m.at:m.at+n]...)
			m.at += n
		}
		form = form[1:]
	}
}

func modelDecode(b []byte) (string, api.Errno, int) {
	m := &model{b: b}
	for i, c := range []byte{0x4a, 0x51, 0x30, 0x31} {
		if i >= len(b) || b[i] != c {
			return "", api.ErrForm, i
		}
	}
	m.at = 4
	m.read(madeOf)
	if m.at < len(b) {
		m.fail(api.ErrForm, m.at)
	}
	if m.e != api.OK {
		return "", m.e, m.at
	}
	return string(m.told), api.OK, m.at
}

// checkAgainstModel: bytes that are decoded are encoded as the same ones, too.
func checkAgainstModel(t *testing.T, b []byte) api.Errno {
	t.Helper()
	want, f, place := modelDecode(b)
	im, e, at := Decode(b)
	if e != f || at != place {
		t.Fatalf("%x: %d at %d, not %d at %d", b, e, at, f, place)
	}
	if e != api.OK {
		if !reflect.DeepEqual(im, api.Image{}) {
			t.Fatalf("%x: %v beside %d", b, im, e)
		}
		return e
	}
	if told(im) != want {
		t.Fatalf("%x: %v", b, im)
	}
	if back, e := Encode(im); e != api.OK || !bytes.Equal(back, b) {
		t.Fatalf("%x: encoded as %x, %d", b, back, e)
	}
	return e
}

// drawer draws images.
type drawer struct{ *rand.Rand }

func (d drawer) number() int {
	switch d.Intn(6) {
	case 0:
		return d.Intn(1 << 14)
	case 1:
		return 1<<d.Intn(62) - d.Intn(2)
	case 2:
		return int(d.Uint64() >> (2 + d.Intn(62)))
	}
	return d.Intn(4)
}

func (d drawer) signed() int {
	n := d.number() / 2
	if d.Intn(2) == 0 {
		return -n - 1
	}
	return n
}

func draw[T any](d drawer, most int, one func() T) []T {
	var l []T
	for range d.Intn(most) {
		l = append(l, one())
	}
	return l
}

func (d drawer) text() string {
	b := make([]byte, d.Intn(4))
	if d.Intn(30) == 0 {
		b = make([]byte, 120+d.Intn(20))
	}
	d.Read(b)
	return string(b)
}

func (d drawer) image() api.Image {
	return api.Image{
		Strs:    draw(d, 4, d.text),
		Keys:    draw(d, 4, func() []int { return draw(d, 4, d.number) }),
		Globals: d.number(),
		Funs: draw(d, 4, func() api.Code {
			return api.Code{
				Params: d.number(),
				Slots:  d.number(),
				Boxes:  draw(d, 3, d.number),
				Caps:   draw(d, 3, func() api.Cap { return api.Cap{Own: d.number(), N: d.number()} }),
				Code:   draw(d, 5, func() api.Instr { return api.Instr{Op: d.number(), A: d.signed(), B: d.signed()} }),
				Tries: draw(d, 3, func() api.Try {
					return api.Try{From: d.number(), To: d.number(), Target: d.number(), Depth: d.number()}
				}),
			}
		}),
	}
}

// modelEncode tells an image's bytes by the library: what is told of it, without the letters.
func modelEncode(im api.Image) []byte {
	s := []byte(told(im))
	b := []byte{0x4a, 0x51, 0x30, 0x31}
	for len(s) > 0 {
		n, long := binary.Varint(s[1:])
		letter := s[0]
		s = s[1+long:]
		switch letter {
		case 'z':
			b = binary.AppendVarint(b, n)
		case 's':
			b = append(binary.AppendUvarint(b, uint64(n)), s[:n]...)
			s = s[n:]
		default:
			b = binary.AppendUvarint(b, uint64(n))
		}
	}
	return b
}

// P10.3, P10.5
func TestDrawnImages(t *testing.T) {
	d := drawer{rand.New(rand.NewSource(10))}
	for range 20000 {
		im := d.image()
		b, e := Encode(im)
		if e != api.OK || !bytes.Equal(b, modelEncode(im)) {
			t.Fatalf("%v: %x, %d", im, b, e)
		}
		back, e, at := Decode(b)
		if e != api.OK || at != len(b) || told(back) != told(im) {
			t.Fatalf("%v: %x: %v, %d at %d", im, b, back, e, at)
		}
	}
}

// P10.4, P10.5: images' bytes, cut, and with bytes that are changed, put in, taken out.
func TestSpoiledImages(t *testing.T) {
	d := drawer{rand.New(rand.NewSource(11))}
	came := map[api.Errno]int{}
	odd := []byte{0, 1, 2, 3, 0x3f, 0x40, 0x7f, 0x80, 0x81, 0xff}
	for range 20000 {
		b, e := Encode(d.image())
		if e != api.OK {
			t.Fatal(e)
		}
		for range 1 + d.Intn(3) {
			at := d.Intn(len(b) + 1)
			if d.Intn(10) > 0 {
				at = max(at, min(4, len(b)))
			}
			switch c := odd[d.Intn(len(odd))]; {
			case d.Intn(4) == 0:
				b = slices.Insert(b, at, c)
			case at == len(b) || d.Intn(8) == 0:
				b = b[:at]
			case d.Intn(3) == 0:
				b = slices.Delete(b, at, at+1)
			default:
				b[at] = c
			}
		}
		came[checkAgainstModel(t, b)]++
	}
	for _, e := range []api.Errno{api.OK, api.ErrForm, api.ErrMany} {
		if came[e] < 1000 {
			t.Errorf("%d came %d times", e, came[e])
		}
	}
}

// P10.4, P10.5: every image's bytes, cut anywhere.
func TestCutImages(t *testing.T) {
	d := drawer{rand.New(rand.NewSource(12))}
	for range 300 {
		b, _ := Encode(d.image())
		for n := range b {
			if checkAgainstModel(t, b[:n]) == api.OK {
				t.Fatalf("%x", b[:n])
			}
		}
	}
}

// P10.4, P10.5: every row of a few bytes behind the mark, and behind what leads into a function.
func TestShortBytes(t *testing.T) {
	few := []byte{0, 1, 2, 0x7f, 0x80, 0x81, 0xff}
	for _, head := range []string{"JQ01", "JQ01\x00\x00\x00\x01\x00\x00\x00", "JQ01\x00\x00\x00\x01\x00\x00\x00\x00\x01\x01"} {
		for long := range 7 {
			b := append([]byte(head), make([]byte, long)...)
			fillAll(b, len(head), few, func() { checkAgainstModel(t, b) })
		}
	}
	for c := range 256 {
		for d := range 256 {
			checkAgainstModel(t, []byte{'J', 'Q', '0', '1', 0, 0, byte(c), byte(d)})
			checkAgainstModel(t, []byte{'J', 'Q', '0', '1', byte(c), byte(d), 0, 0, 0, 0})
		}
	}
}

// fillAll goes through all ways to fill b from a place on.
func fillAll(b []byte, at int, with []byte, each func()) {
	if at == len(b) {
		each()
		return
	}
	for _, c := range with {
		b[at] = c
		fillAll(b, at+1, with, each)
	}
}

// P10.4: the place of a fault of form is the first byte that no image has there, so what is ahead of it goes on as one.
func TestFaultIsNotEarly(t *testing.T) {
	d := drawer{rand.New(rand.NewSource(13))}
	came := 0
	for range 5000 {
		b, _ := Encode(d.image())
		b[4+d.Intn(len(b)-4)] = byte(d.Intn(256))
		_, e, at := Decode(b)
		if e != api.ErrForm || at == len(b) || b[at-1] >= 128 && b[at-2] >= 128 { // a long number may say that there is more than can be tried
			continue
		}
		came++
		if !goesOn(b[:at]) {
			t.Fatalf("%x: at %d", b, at)
		}
	}
	if came < 300 {
		t.Error(came)
	}
}

// goesOn: is there an image that begins so? Behind the last byte of a number noughts end whatever is begun.
func goesOn(b []byte) bool {
	for _, last := range []string{"", "\x01"} {
		for n := 0; n < 1<<17; n = n*2 + 1 {
			long := append(append(slices.Clone(b), last...), make([]byte, n)...)
			_, e, at := Decode(long)
			if e == api.ErrForm && at >= len(b) {
				_, e, _ = Decode(long[:at])
			}
			if e == api.OK {
				return true
			}
		}
	}
	return false
}

// clone makes an image anew, with spare room of its own in each list.
func clone(im api.Image) api.Image {
	im.Strs = append([]string(nil), im.Strs...)
	im.Keys = append([][]int(nil), im.Keys...)
	for i, l := range im.Keys {
		im.Keys[i] = append([]int(nil), l...)
	}
	im.Funs = append([]api.Code(nil), im.Funs...)
	for i, c := range im.Funs {
		c.Boxes = append([]int(nil), c.Boxes...)
		c.Caps = append([]api.Cap(nil), c.Caps...)
		c.Code = append([]api.Instr(nil), c.Code...)
		c.Tries = append([]api.Try(nil), c.Tries...)
		im.Funs[i] = c
	}
	return im
}

// spoil changes all lists of an image, spare room too.
func spoil(im api.Image) {
	spoilList(im.Strs, "spoiled")
	for _, l := range im.Keys {
		spoilList(l, 77)
	}
	for _, c := range im.Funs {
		spoilList(c.Boxes, 77)
		spoilList(c.Caps, api.Cap{Own: 77, N: 77})
		spoilList(c.Code, api.Instr{Op: 77, A: 77, B: 77})
		spoilList(c.Tries, api.Try{From: 77, To: 77, Target: 77, Depth: 77})
	}
	spoilList(im.Keys, []int{77})
	spoilList(im.Funs, api.Code{Params: 77})
}

func spoilList[T any](l []T, with T) {
	l = l[:cap(l)]
	for i := range l {
		l[i] = with
	}
}

// Rules: what is handed in is neither changed nor kept, and no two answers share anything.
func TestMemory(t *testing.T) {
	im := whole()
	kept := told(clone(im))
	b, e := Encode(im)
	if e != api.OK {
		t.Fatal(e)
	}
	again, _ := Encode(im)
	spoilList(again, 0xee)
	if told(im) != kept || string(b) != wholeBytes() {
		t.Error("Encode changed what was handed in, or an answer of its own")
	}
	spoil(im)
	if string(b) != wholeBytes() {
		t.Error("bytes hang on the image")
	}
	room := append(slices.Clone(b), 1, 2, 3)[:len(b)]
	first, e, _ := Decode(room)
	second, _, _ := Decode(room)
	if e != api.OK || string(room[:len(b)+3]) != wholeBytes()+"\x01\x02\x03" {
		t.Error("Decode changed what was handed in", e)
	}
	spoilList(room, 0xee)
	if told(first) != kept {
		t.Error("an image hangs on its bytes")
	}
	spoil(second)
	if told(first) != kept {
		t.Error("two images share something")
	}
	checkOwnLists(t, first)
}

// checkOwnLists: no list of an image reaches into another one of it.
func checkOwnLists(t *testing.T, im api.Image) {
	t.Helper()
	kept := told(clone(im))
	for _, l := range im.Keys {
		_ = append(l, 99)
	}
	for _, c := range im.Funs {
		_ = append(c.Boxes, 99)
		_ = append(c.Caps, api.Cap{Own: 99})
		_ = append(c.Code, api.Instr{Op: 99})
		_ = append(c.Tries, api.Try{From: 99})
	}
	if told(im) != kept {
		t.Error("lists of an image share room")
	}
}

// Effect leaves the image as it is, too.
func TestEffectKeepsTheImage(t *testing.T) {
	im := whole()
	kept := told(clone(im))
	for op := range api.Ops {
		Effect(im, api.Instr{Op: op, A: 1})
	}
	if told(im) != kept {
		t.Error("changed")
	}
}
