package code

import (
	"bytes"
	"math"
	"reflect"
	"strings"
	"testing"

	"jacquard/api"
)

// most is the greatest number that is told without a sign.
const most = 1<<62 - 1

// whole has something of all that an image has, each number another one.
func whole() api.Image {
	return api.Image{
		Strs:    []string{"ab", "", "\x00\xff\x80"},
		Keys:    [][]int{{1, 0}, {}, {2}},
		Globals: 300,
		Funs: []api.Code{
			{},
			{
				Params: 3, Slots: 4, Boxes: []int{5, 6}, Caps: []api.Cap{{Own: 7, N: 8}, {Own: 9, N: 10}},
				Code:  []api.Instr{{Op: 11, A: 12, B: -13}, {Op: 14, A: -64, B: 64}, {Op: 15, A: -65, B: 63}},
				Tries: []api.Try{{From: 16, To: 17, Target: 18, Depth: 19}, {From: 127, To: 128, Target: 16383, Depth: 16384}},
			},
		},
	}
}

func wholeBytes() string {
	return "JQ01" +
		"\x03" + "\x02ab" + "\x00" + "\x03\x00\xff\x80" +
		"\x03" + "\x02\x01\x00" + "\x00" + "\x01\x02" +
		"\xac\x02" +
		"\x02" +
		"\x00\x00\x00\x00\x00\x00" +
		"\x03\x04" + "\x02\x05\x06" + "\x02\x07\x08\x09\x0a" +
		"\x03" + "\x0b\x18\x19" + "\x0e\x7f\x80\x01" + "\x0f\x81\x01\x7e" +
		"\x02" + "\x10\x11\x12\x13" + "\x7f\x80\x01\xff\x7f\x80\x80\x01"
}

func checkEncode(t *testing.T, im api.Image, want string) {
	t.Helper()
	if b, e := Encode(im); string(b) != want || e != api.OK {
		t.Errorf("%v: %x %d, not %x", im, b, e, want)
	}
}

// checkDecode: nil and empty lists are alike, so images are held against each other as texts of what they have.
func checkDecode(t *testing.T, b string, want api.Image) {
	t.Helper()
	im, e, at := Decode([]byte(b))
	if e != api.OK || at != len(b) || told(im) != told(want) {
		t.Errorf("%x: %v %d at %d, not %v", b, im, e, at, want)
	}
}

func checkFault(t *testing.T, b string, e api.Errno, at int) {
	t.Helper()
	im, f, place := Decode([]byte(b))
	if f != e || place != at || !reflect.DeepEqual(im, api.Image{}) {
		t.Errorf("%.80x (%d bytes): %d at %d, not %d at %d", b, len(b), f, place, e, at)
	}
}

func checkNotEncoded(t *testing.T, im api.Image, e api.Errno) {
	t.Helper()
	if b, f := Encode(im); len(b) != 0 || f != e {
		t.Errorf("%d bytes, %d, not %d", len(b), f, e)
	}
}

// P10.3
func TestBytesOfImages(t *testing.T) {
	for _, c := range []struct {
		im api.Image
		b  string
	}{
		{api.Image{}, "\x4a\x51\x30\x31\x00\x00\x00\x00"},
		{api.Image{Strs: []string{}, Keys: [][]int{}, Funs: []api.Code{}}, "JQ01\x00\x00\x00\x00"},
		{api.Image{Globals: 5}, "JQ01\x00\x00\x05\x00"},
		{api.Image{Funs: []api.Code{{Code: []api.Instr{{Op: 33}, {Op: most}}}}},
			"JQ01\x00\x00\x00\x01\x00\x00\x00\x00\x02\x21\x00\x00\xff\xff\xff\xff\xff\xff\xff\xff\x3f\x00\x00\x00"},
		{whole(), wholeBytes()},
	} {
		checkEncode(t, c.im, c.b)
		checkDecode(t, c.b, c.im)
	}
}

// P10.3
func TestBytesOfNumbers(t *testing.T) {
	for _, c := range []struct {
		n int
		b string
	}{
		{0, "\x00"}, {1, "\x01"}, {2, "\x02"}, {63, "\x3f"}, {64, "\x40"}, {127, "\x7f"}, {128, "\x80\x01"},
		{129, "\x81\x01"}, {255, "\xff\x01"}, {256, "\x80\x02"}, {16383, "\xff\x7f"}, {16384, "\x80\x80\x01"},
		{1 << 21, "\x80\x80\x80\x01"}, {1<<21 - 1, "\xff\xff\x7f"}, {1 << 31, "\x80\x80\x80\x80\x08"},
		{1<<56 - 1, "\xff\xff\xff\xff\xff\xff\xff\x7f"}, {1 << 56, "\x80\x80\x80\x80\x80\x80\x80\x80\x01"},
		{1 << 61, "\x80\x80\x80\x80\x80\x80\x80\x80\x20"}, {most, "\xff\xff\xff\xff\xff\xff\xff\xff\x3f"},
	} {
		b := "JQ01\x00\x00" + c.b + "\x00"
		checkEncode(t, api.Image{Globals: c.n}, b)
		checkDecode(t, b, api.Image{Globals: c.n})
	}
}

// P10.3
func TestBytesOfNumbersOfEitherSign(t *testing.T) {
	for _, c := range []struct {
		z int
		b string
	}{
		{0, "\x00"}, {-1, "\x01"}, {1, "\x02"}, {-2, "\x03"}, {2, "\x04"}, {63, "\x7e"}, {-64, "\x7f"}, {64, "\x80\x01"},
		{-65, "\x81\x01"}, {8191, "\xfe\x7f"}, {-8192, "\xff\x7f"}, {8192, "\x80\x80\x01"}, {-8193, "\x81\x80\x01"},
		{api.MaxInt, "\xfe\xff\xff\xff\xff\xff\xff\xff\x3f"}, {api.MinInt, "\xff\xff\xff\xff\xff\xff\xff\xff\x3f"},
	} {
		head, tail := "JQ01\x00\x00\x00\x01\x00\x00\x00\x00\x01\x00", "\x00"
		asA := api.Image{Funs: []api.Code{{Code: []api.Instr{{A: c.z}}}}}
		asB := api.Image{Funs: []api.Code{{Code: []api.Instr{{B: c.z}}}}}
		checkEncode(t, asA, head+c.b+"\x00"+tail)
		checkDecode(t, head+c.b+"\x00"+tail, asA)
		checkEncode(t, asB, head+"\x00"+c.b+tail)
		checkDecode(t, head+"\x00"+c.b+tail, asB)
	}
}

// unsigned has, for each number that is told without a sign, an image where it alone is n.
func unsigned(n int) map[string]api.Image {
	fun := func(c api.Code) api.Image { return api.Image{Funs: []api.Code{{}, c}} }
	return map[string]api.Image{
		"key":     {Keys: [][]int{nil, {0, n}}},
		"globals": {Globals: n},
		"params":  fun(api.Code{Params: n}),
		"slots":   fun(api.Code{Slots: n}),
		"box":     fun(api.Code{Boxes: []int{0, n}}),
		"own":     fun(api.Code{Caps: []api.Cap{{}, {Own: n}}}),
		"n":       fun(api.Code{Caps: []api.Cap{{}, {N: n}}}),
		"op":      fun(api.Code{Code: []api.Instr{{}, {Op: n}}}),
		"from":    fun(api.Code{Tries: []api.Try{{}, {From: n}}}),
		"to":      fun(api.Code{Tries: []api.Try{{}, {To: n}}}),
		"target":  fun(api.Code{Tries: []api.Try{{}, {Target: n}}}),
		"depth":   fun(api.Code{Tries: []api.Try{{}, {Depth: n}}}),
	}
}

func signed(z int) map[string]api.Image {
	return map[string]api.Image{
		"a": {Funs: []api.Code{{Code: []api.Instr{{}, {A: z}}}}},
		"b": {Funs: []api.Code{{Code: []api.Instr{{}, {B: z}}}}},
	}
}

// P10.4
func TestEncodeBounds(t *testing.T) {
	for _, n := range []int{-1, -2, -128, 1 << 62, 1<<62 + 1, math.MaxInt, math.MinInt} {
		for _, im := range unsigned(n) {
			checkNotEncoded(t, im, api.ErrArg)
		}
	}
	for _, z := range []int{api.MinInt - 1, api.MaxInt + 1, 1 << 62, -1 << 62, math.MaxInt, math.MinInt} {
		for _, im := range signed(z) {
			checkNotEncoded(t, im, api.ErrArg)
		}
	}
	for _, n := range []int{0, 1, 127, 128, most - 1, most} {
		for name, im := range unsigned(n) {
			checkRoundTrip(t, name, im)
		}
	}
	for _, z := range []int{0, 1, -1, api.MinInt, api.MinInt + 1, api.MaxInt - 1, api.MaxInt} {
		for name, im := range signed(z) {
			checkRoundTrip(t, name, im)
		}
	}
}

func checkRoundTrip(t *testing.T, name string, im api.Image) {
	t.Helper()
	b, e := Encode(im)
	if e != api.OK {
		t.Fatalf("%s: %d", name, e)
	}
	back, e, at := Decode(b)
	if e != api.OK || at != len(b) || told(back) != told(im) {
		t.Fatalf("%s: %x: %d at %d", name, b, e, at)
	}
}

// P10.4: an image is at most MaxImage bytes, whatever the last ones of them are.
func TestEncodeLong(t *testing.T) {
	text := func(n int) []string { return []string{strings.Repeat("x", n)} }
	const fits = api.MaxImage - 12 // beside the mark, three noughts, how many texts, and four bytes for how long it is
	last := api.Code{Tries: []api.Try{{Depth: most}}}
	lastBytes := 6 + 3 + 9
	for _, c := range []struct {
		im   api.Image
		over int
	}{
		{api.Image{Strs: text(fits)}, 0},
		{api.Image{Strs: text(fits + 1)}, 1},
		{api.Image{Strs: text(fits + 2)}, 2},
		{api.Image{Strs: text(fits + 12)}, 12},
		{api.Image{Strs: text(2 * fits)}, fits},
		{api.Image{Strs: text(fits - 1), Globals: 128}, 0},
		{api.Image{Strs: text(fits), Globals: 128}, 1},
		{api.Image{Strs: text(fits), Globals: most}, 8},
		{api.Image{Strs: text(fits - lastBytes), Funs: []api.Code{last}}, 0},
		{api.Image{Strs: text(fits - lastBytes + 1), Funs: []api.Code{last}}, 1},
		{api.Image{Strs: append(text(fits-1), ""), Globals: 0}, 0},
		{api.Image{Strs: append(text(fits), ""), Globals: 0}, 1},
		{api.Image{Keys: make([][]int, fits+1)}, 0},
		{api.Image{Keys: make([][]int, fits+2)}, 1},
		{api.Image{Keys: [][]int{make([]int, fits)}}, 0},
		{api.Image{Keys: [][]int{make([]int, fits+1)}}, 1},
		{api.Image{Funs: make([]api.Code, (fits+2)/6)}, 0},
		{api.Image{Funs: make([]api.Code, (fits+2)/6+1)}, 6},
		{api.Image{Funs: []api.Code{{Code: make([]api.Instr, (fits-4)/3)}}}, 0},
		{api.Image{Funs: []api.Code{{Code: make([]api.Instr, (fits-4)/3+1)}}}, 3},
	} {
		want := modelEncode(c.im)
		if len(want) != api.MaxImage+c.over {
			t.Fatalf("the model has %d bytes", len(want))
		}
		if c.over > 0 {
			checkNotEncoded(t, c.im, api.ErrLong)
			continue
		}
		b, e := Encode(c.im)
		if e != api.OK || !bytes.Equal(b, want) {
			t.Fatalf("%d bytes, %d", len(b), e)
		}
		if im, e, at := Decode(b); e != api.OK || at != len(b) || told(im) != told(c.im) {
			t.Errorf("%d at %d", e, at)
		}
	}
}

// P10.4: a number that may not be comes ahead of too many bytes, on whichever side of them it stands.
func TestEncodeFirstError(t *testing.T) {
	long := []string{strings.Repeat("x", api.MaxImage)}
	for _, im := range unsigned(-1) {
		im.Strs = long
		checkNotEncoded(t, im, api.ErrArg)
	}
	for _, im := range signed(api.MaxInt + 1) {
		im.Strs = long
		checkNotEncoded(t, im, api.ErrArg)
	}
	many := make([]api.Instr, api.MaxImage)
	checkNotEncoded(t, api.Image{Globals: -1, Funs: []api.Code{{Code: many}}}, api.ErrArg)
	checkNotEncoded(t, api.Image{Funs: []api.Code{{Code: many}}}, api.ErrLong)
	many[len(many)-1].B = api.MinInt - 1
	checkNotEncoded(t, api.Image{Funs: []api.Code{{Code: many}}}, api.ErrArg)
}

// P10.4
func TestDecodeLong(t *testing.T) {
	b := make([]byte, api.MaxImage+1)
	copy(b, "JQ01")
	checkFault(t, string(b), api.ErrLong, 0)
	checkFault(t, string(b[:api.MaxImage]), api.ErrForm, 8)
	b[0] = 0
	checkFault(t, string(b), api.ErrLong, 0)
	checkFault(t, string(b[:api.MaxImage]), api.ErrForm, 0)
	checkFault(t, strings.Repeat("J", 3*api.MaxImage), api.ErrLong, 0)
}

// P10.4
func TestDecodeMark(t *testing.T) {
	checkFault(t, "", api.ErrForm, 0)
	if im, e, at := Decode(nil); e != api.ErrForm || at != 0 || !reflect.DeepEqual(im, api.Image{}) {
		t.Error(im, e, at)
	}
	whole := "JQ01\x00\x00\x00\x00"
	for i := range len(whole) {
		checkFault(t, whole[:i], api.ErrForm, i)
	}
	for i := range 4 {
		for c := range 256 {
			b := []byte(whole)
			b[i] = byte(c)
			if byte(c) != whole[i] {
				checkFault(t, string(b), api.ErrForm, i)
				checkFault(t, string(b[:i+1]), api.ErrForm, i)
			}
		}
	}
}

// numberPlaces are images cut ahead of each number there is, and what may follow it, with whether it says how many.
func numberPlaces() []struct {
	name, head, tail string
	many             bool
} {
	fun := "JQ01\x00\x00\x00\x01"
	return []struct {
		name, head, tail string
		many             bool
	}{
		{"strs", "JQ01", "\x00\x00\x00", true},
		{"length", "JQ01\x01", "\x00\x00\x00", true},
		{"keys", "JQ01\x00", "\x00\x00", true},
		{"key's keys", "JQ01\x00\x01", "\x00\x00", true},
		{"key", "JQ01\x00\x01\x01", "\x00\x00", false},
		{"globals", "JQ01\x00\x00", "\x00", false},
		{"funs", "JQ01\x00\x00\x00", "", true},
		{"params", fun, "\x00\x00\x00\x00\x00", false},
		{"slots", fun + "\x00", "\x00\x00\x00\x00", false},
		{"boxes", fun + "\x00\x00", "\x00\x00\x00", true},
		{"box", fun + "\x00\x00\x01", "\x00\x00\x00", false},
		{"caps", fun + "\x00\x00\x00", "\x00\x00", true},
		{"own", fun + "\x00\x00\x00\x01", "\x00\x00\x00", false},
		{"n", fun + "\x00\x00\x00\x01\x00", "\x00\x00", false},
		{"code", fun + "\x00\x00\x00\x00", "\x00", true},
		{"op", fun + "\x00\x00\x00\x00\x01", "\x00\x00\x00", false},
		{"a", fun + "\x00\x00\x00\x00\x01\x00", "\x00\x00", false},
		{"b", fun + "\x00\x00\x00\x00\x01\x00\x00", "\x00", false},
		{"tries", fun + "\x00\x00\x00\x00\x00", "", true},
		{"from", fun + "\x00\x00\x00\x00\x00\x01", "\x00\x00\x00", false},
		{"to", fun + "\x00\x00\x00\x00\x00\x01\x00", "\x00\x00", false},
		{"target", fun + "\x00\x00\x00\x00\x00\x01\x00\x00", "\x00", false},
		{"depth", fun + "\x00\x00\x00\x00\x00\x01\x00\x00\x00", "", false},
	}
}

// P10.4: a number that has no such form is at fault at the byte that no number has there, whatever stands behind.
func TestDecodeNumberForm(t *testing.T) {
	for _, p := range numberPlaces() {
		at := len(p.head)
		if !p.many {
			full := p.head + "\xff\xff\xff\xff\xff\xff\xff\xff\x3f" + p.tail
			if _, e, end := Decode([]byte(full)); e != api.OK || end != len(full) {
				t.Errorf("%s: %d at %d", p.name, e, end)
			}
		}
		for n := 1; n <= 8; n++ {
			begun := p.head + strings.Repeat("\x80", n)
			checkFault(t, begun, api.ErrForm, at+n)
			checkFault(t, begun+"\x00", api.ErrForm, at+n)
			checkFault(t, begun+"\x00"+p.tail, api.ErrForm, at+n)
		}
		for _, ninth := range []string{"\x00", "\x40", "\x41", "\x7f", "\x80", "\x81", "\xbf", "\xff"} {
			for _, c := range []string{"\x80", "\xff", "\x81"} {
				checkFault(t, p.head+strings.Repeat(c, 8)+ninth, api.ErrForm, at+8)
				checkFault(t, p.head+strings.Repeat(c, 8)+ninth+p.tail+"\x00\x01", api.ErrForm, at+8)
			}
		}
	}
}

// P10.4: what says how many, or how long, is held against the bytes behind it; other numbers may be any.
func TestDecodeMany(t *testing.T) {
	for _, p := range numberPlaces() {
		at := len(p.head)
		if !p.many {
			b := p.head + "\x7f" + p.tail
			if _, e, end := Decode([]byte(b)); e != api.OK || end != len(b) {
				t.Errorf("%s: %d at %d", p.name, e, end)
			}
			continue
		}
		for n := 1; n <= 130; n++ {
			number := string([]byte{byte(n)})
			if n > 127 {
				number = string([]byte{byte(n), 1})
			}
			for _, behind := range []int{0, 1, n - 1} {
				checkManyOf(t, p.head+number, at, n, behind)
			}
		}
		checkFault(t, p.head+"\xff\xff\xff\xff\xff\xff\xff\xff\x3f"+p.tail, api.ErrMany, at)
		checkFault(t, p.head+"\x80\x80\x80\x80\x80\x80\x80\x80\x20"+p.tail, api.ErrMany, at)
		checkFault(t, p.head+"\x80\x80\x80\x80\x10"+p.tail, api.ErrMany, at)
		checkFault(t, p.head+"\x05", api.ErrMany, at)
	}
}

// checkManyOf: with one byte less than the number says it is ErrMany; with as many it is something else.
func checkManyOf(t *testing.T, head string, at, n, behind int) {
	t.Helper()
	if behind < n {
		checkFault(t, head+strings.Repeat("\x00", behind), api.ErrMany, at)
	}
	if _, e, place := Decode([]byte(head + strings.Repeat("\x00", n))); e == api.ErrMany || place <= at {
		t.Errorf("%x with %d behind: %d at %d", head, n, e, place)
	}
}

// P10.4: the first fault is the one that is told.
func TestDecodeFirstFault(t *testing.T) {
	for _, c := range []struct {
		b  string
		e  api.Errno
		at int
	}{
		{"JQ01\x00\x00\x00\x00\x00", api.ErrForm, 8},
		{"JQ01\x00\x00\x00\x00JQ01\x00\x00\x00\x00", api.ErrForm, 8},
		{"JQ01\x00\x00\x00\x00\xff\xff", api.ErrForm, 8},
		{wholeBytes() + "\x00", api.ErrForm, len(wholeBytes())},
		{"JQ01\x01", api.ErrMany, 4},
		{"JQ01\x01\x01", api.ErrMany, 5},
		{"JQ01\x01\x01a", api.ErrForm, 7},
		{"JQ01\x02\x00", api.ErrMany, 4},
		{"JQ01\x02\x00\x80\x00", api.ErrForm, 7},
		{"JQ01\x02\x03\x80\x00", api.ErrMany, 5},
		{"JQ01\x03\x80\x00", api.ErrMany, 4},
		{"JQ01\x02\x80\x00", api.ErrForm, 6},
		{"JQ01\x83\x00", api.ErrForm, 5},
		{"JQ01\xff", api.ErrForm, 5},
		{"JQ01\x00\x00\x00\x01\x00\x00\x00\x00\x03\x00\x00\x00", api.ErrForm, 16},
		{"JQ01\x00\x00\x00\x01\x00\x00\x00\x00\x01\x00\x00\x00", api.ErrForm, 16},
		{"JQ01\x00\x00\x00\x01\x00\x00\x00\x00\x04\x00\x00\x00", api.ErrMany, 12},
		{"JQ0\x05\x05", api.ErrForm, 3},
	} {
		checkFault(t, c.b, c.e, c.at)
	}
}

// P10.4: a number that says how many is no ground for room: what has come counts.
func TestDecodeGreatNumbers(t *testing.T) {
	zeros := func(head string) string { return head + strings.Repeat("\x00", api.MaxImage-len(head)) }
	checkFault(t, zeros("JQ01\x00\x00\x00\xf4\xff\xff\x01"), api.ErrForm, api.MaxImage)
	checkFault(t, zeros("JQ01\x00\x00\x00\x01\x00\x00\x00\x00\xf0\xff\xff\x01"), api.ErrForm, api.MaxImage)
	checkFault(t, zeros("JQ01\x00\xf6\xff\xff\x01"), api.ErrForm, api.MaxImage)
	nested := "JQ01\x00" + strings.Repeat("\xf0\xff\xff\x01", (api.MaxImage-5)/4)
	checkFault(t, nested, api.ErrForm, len(nested))
	checkFault(t, nested[:len(nested)-1], api.ErrMany, 9)
}
