package verify

import (
	"math/rand"
	"slices"
	"strings"
	"testing"

	"jacquard/api"
)

// drawer draws images that can be run, statement by statement.
type drawer struct {
	*rand.Rand
	im     api.Image
	c      *api.Code
	height int
}

func (d *drawer) put(op, a int) int {
	d.c.Code = append(d.c.Code, in(op, a))
	return len(d.c.Code) - 1
}

// lead makes the instruction at a place go on here.
func (d *drawer) lead(from int) { d.c.Code[from].A = len(d.c.Code) }

// leaf puts one.
func (d *drawer) leaf() {
	if len(d.c.Caps) > 0 && d.Intn(5) == 0 {
		d.put(api.OpLoadCap, d.Intn(len(d.c.Caps)))
		return
	}
	switch d.Intn(8) {
	case 0:
		d.put(api.OpInt, d.Intn(100)-50)
	case 1:
		d.put(api.OpAtom, d.Intn(3))
	case 2:
		d.put(api.OpStr, d.Intn(len(d.im.Strs)))
	case 3:
		d.put(api.OpPrim, d.Intn(api.Prims))
	case 4:
		d.put(api.OpLoad, d.Intn(d.c.Slots))
	case 5:
		d.put(api.OpLoadCell, d.Intn(d.c.Slots))
	case 6:
		d.put(api.OpLoadGlobal, d.Intn(d.im.Globals))
	case 7:
		d.put(api.OpFun, 1+d.Intn(len(d.im.Funs)-1))
	}
}

// expressions puts so many.
func (d *drawer) expressions(n, deep int) {
	for range n {
		d.expression(deep - 1)
		d.height++
	}
	d.height -= n
}

func (d *drawer) expression(deep int) {
	if deep <= 0 {
		d.leaf()
		return
	}
	switch d.Intn(9) {
	case 0:
		d.expressions(2, deep)
		d.put(api.OpBin, d.Intn(11))
	case 1:
		d.expressions(1, deep)
		d.put([]int{api.OpNot, api.OpNeg}[d.Intn(2)], 0)
	case 2:
		d.expressions(1, deep)
		d.put(api.OpField, d.Intn(len(d.im.Strs)))
	case 3:
		n := d.Intn(4)
		d.expressions(n, deep)
		d.put(api.OpList, n)
	case 4:
		n := d.Intn(len(d.im.Keys))
		d.expressions(len(d.im.Keys[n]), deep)
		d.put(api.OpRec, n)
	case 5:
		n := d.Intn(3)
		d.expressions(n+1, deep)
		d.put([]int{api.OpCall, api.OpSpawn}[d.Intn(2)], n)
	case 6:
		d.expressions(2, deep)
		d.put(api.OpIndex, 0)
	case 7:
		d.expression(deep - 1)
		from := d.put([]int{api.OpKeepFalse, api.OpKeepTrue}[d.Intn(2)], 0)
		d.expression(deep - 1)
		d.lead(from)
	default:
		d.leaf()
	}
}

func (d *drawer) statements(deep int) {
	for range d.Intn(3) {
		d.statement(deep - 1)
	}
}

func (d *drawer) statement(deep int) {
	if deep <= 0 {
		d.simple()
		return
	}
	switch d.Intn(6) {
	case 0:
		d.choice(deep)
	case 1:
		d.repeat(deep)
	case 2:
		d.try(deep)
	case 3: // what is put stays below what the statements do
		d.expression(deep - 1)
		d.height++
		d.statements(deep)
		d.height--
		d.put(api.OpPop, 0)
	case 4:
		d.expression(deep - 1)
		if d.Intn(4) == 0 {
			d.put([]int{api.OpReturn, api.OpThrow}[d.Intn(2)], 0)
		} else {
			d.put(api.OpPop, 0)
		}
	default:
		d.simple()
	}
}

func (d *drawer) simple() {
	switch d.Intn(7) {
	case 0:
		d.expressions(1, 2)
		d.put(api.OpStore, d.Intn(d.c.Slots))
	case 1:
		d.put(api.OpBox, d.Intn(d.c.Slots))
	case 2:
		d.expressions(1, 2)
		d.put(api.OpStoreCell, d.Intn(d.c.Slots))
	case 3:
		d.expressions(1, 2)
		d.put(api.OpStoreGlobal, d.Intn(d.im.Globals))
	case 4:
		d.expressions(3, 1)
		d.put(api.OpSetIndex, 0)
	case 5:
		d.expressions(2, 1)
		d.put(api.OpSetField, d.Intn(len(d.im.Strs)))
	case 6:
		d.expressions(1, 2)
		if len(d.c.Caps) > 0 {
			d.put(api.OpStoreCap, d.Intn(len(d.c.Caps)))
		} else {
			d.put(api.OpPop, 0)
		}
	}
}

func (d *drawer) choice(deep int) {
	d.expression(deep - 1)
	no := d.put(api.OpFalse, 0)
	d.statements(deep)
	behind := d.put(api.OpJump, 0)
	d.lead(no)
	d.statements(deep)
	d.lead(behind)
}

func (d *drawer) repeat(deep int) {
	first := len(d.c.Code)
	d.expression(deep - 1)
	no := d.put(api.OpFalse, 0)
	d.statements(deep)
	d.put(api.OpLoop, first)
	d.lead(no)
}

// try puts a Try behind those that are within it, so that the first one that has a place is the innermost.
func (d *drawer) try(deep int) {
	from := len(d.c.Code)
	d.statement(deep - 1)
	to := len(d.c.Code)
	behind := d.put(api.OpJump, 0)
	d.c.Tries = append(d.c.Tries, api.Try{From: from, To: to, Target: len(d.c.Code), Depth: d.height})
	d.put(api.OpStore, d.Intn(d.c.Slots))
	d.statements(deep)
	d.lead(behind)
}

func (d *drawer) function(f, deep int) {
	d.c, d.height = &d.im.Funs[f], 0
	d.statement(deep)
	d.statements(deep)
	d.put(api.OpAtom, 0)
	d.put(api.OpReturn, 0)
}

// image: each function has as many slots as any Cap asks for, and Caps are slots, so that each can make all.
func (d *drawer) image() api.Image {
	d.im = api.Image{
		Strs:    []string{"a", "b", "c", "a"},
		Keys:    [][]int{{}, {1}, {0, 1, 2}, {3, 2}},
		Globals: 1 + d.Intn(3),
		Funs:    make([]api.Code, 2+d.Intn(3)),
	}
	for f := range d.im.Funs {
		c := &d.im.Funs[f]
		c.Slots = 2 + d.Intn(3)
		if f == 0 {
			continue
		}
		c.Params = d.Intn(3)
		for p := range c.Params {
			if d.Intn(2) == 0 {
				c.Boxes = append(c.Boxes, p)
			}
		}
		for range d.Intn(3) {
			c.Caps = append(c.Caps, api.Cap{Own: 1, N: d.Intn(2)})
		}
	}
	for f := range d.im.Funs {
		d.function(f, 1+d.Intn(5))
	}
	return d.im
}

// spoil changes something.
func (d *drawer) spoil(im *api.Image) {
	c := &im.Funs[d.Intn(len(im.Funs))]
	if len(c.Code) == 0 {
		return
	}
	i := &c.Code[d.Intn(len(c.Code))]
	switch d.Intn(14) {
	case 0:
		*i = in(d.Intn(api.Ops), i.A)
	case 1:
		*i = in([]int{-1, api.Ops, api.OpPop, api.OpCall}[d.Intn(4)], d.Intn(2))
	case 2:
		i.A += d.Intn(5) - 2
	case 3:
		i.A = d.Intn(len(c.Code))
	case 4:
		at := d.Intn(len(c.Code))
		c.Code = slices.Delete(c.Code, at, at+1)
	case 5:
		at := d.Intn(len(c.Code))
		c.Code = slices.Insert(c.Code, at, in(d.Intn(api.Ops), d.Intn(3)))
	case 6, 7:
		from := d.Intn(len(c.Code))
		to := min(from+d.Intn(6), len(c.Code)-1)
		c.Tries = append(c.Tries, api.Try{From: from, To: to, Target: to + d.Intn(len(c.Code)-to), Depth: d.Intn(2)})
	case 8, 9:
		if len(c.Tries) > 0 {
			t := &c.Tries[d.Intn(len(c.Tries))]
			n := []*int{&t.From, &t.To, &t.Target, &t.Depth}[d.Intn(4)]
			*n += d.Intn(3) - 1
		}
	case 10:
		d.spoilFrame(im, c)
	case 11:
		c.Code = c.Code[:len(c.Code)-d.Intn(3)%len(c.Code)]
	case 12:
		i.B = d.Intn(3) - 1
	case 13:
		*i = in([]int{api.OpJump, api.OpFalse, api.OpKeepTrue, api.OpLoop}[d.Intn(4)], d.Intn(len(c.Code)))
	}
}

func (d *drawer) spoilFrame(im *api.Image, c *api.Code) {
	switch d.Intn(8) {
	case 0:
		c.Params += d.Intn(3) - 1
	case 1:
		c.Slots += d.Intn(3) - 1
	case 2:
		c.Boxes = append(c.Boxes, d.Intn(4)-1)
	case 3:
		c.Caps = append(c.Caps, api.Cap{Own: d.Intn(4) - 1, N: d.Intn(6) - 1})
	case 4:
		im.Globals -= d.Intn(4)
	case 5:
		im.Keys = append(im.Keys, []int{d.Intn(6) - 1, d.Intn(5)})
	case 6:
		im.Strs = im.Strs[:len(im.Strs)-d.Intn(3)%(len(im.Strs)+1)]
	case 7:
		c.Code = nil
	}
}

// checkAgainstModel: what Check and Heights say of an image.
func checkAgainstModel(t *testing.T, im api.Image) api.Errno {
	t.Helper()
	m := newModel(im)
	want := m.check()
	fun, at, e := Check(im)
	if got := (fault{fun, at, e}); got != want {
		t.Fatalf("%+v: %v, not %v", im, got, want)
	}
	if e == api.ErrForm {
		for f := range fun {
			if !m.stands(f) {
				t.Fatalf("%+v: function %d is not right, but %d is told", im, f, fun)
			}
		}
		if m.stands(fun) {
			t.Fatalf("%+v: function %d is right", im, fun)
		}
	}
	for f := range im.Funs {
		h, got := Heights(im, f)
		if got != e || e != api.OK && len(h) > 0 {
			t.Fatalf("%+v: %v, %d beside %d", im, h, got, e)
		}
		if e != api.OK {
			continue
		}
		if !m.stands(f) {
			t.Fatalf("%+v: function %d is not right", im, f)
		}
		told := m.heights(f)
		for at := range im.Funs[f].Code {
			n, met := told[at]
			if !met {
				n = -1
			}
			if len(h) != len(im.Funs[f].Code) || h[at] != n {
				t.Fatalf("%+v: function %d: %v", im, f, h)
			}
		}
	}
	return e
}

// P11.5
func TestDrawnImages(t *testing.T) {
	d := &drawer{Rand: rand.New(rand.NewSource(11))}
	tries := 0
	for range 2000 {
		im := d.image()
		if e := checkAgainstModel(t, im); e != api.OK {
			_, at, _ := Check(im)
			t.Fatalf("%+v: %d at %d", im, e, at)
		}
		for _, c := range im.Funs {
			tries += len(c.Tries)
		}
	}
	if tries < 1000 {
		t.Error(tries)
	}
}

// P11.5: images with one thing changed, and with several.
func TestSpoiledImages(t *testing.T) {
	d := &drawer{Rand: rand.New(rand.NewSource(12))}
	came := map[api.Errno]int{}
	for range 20000 {
		im := d.image()
		for range 1 + d.Intn(3) {
			d.spoil(&im)
		}
		came[checkAgainstModel(t, im)]++
	}
	for _, e := range []api.Errno{api.OK, api.ErrMany, api.ErrArg, api.ErrKind, api.ErrRange, api.ErrForm} {
		if came[e] < 200 {
			t.Errorf("%d came %d times", e, came[e])
		}
	}
}

// few are the instructions of which short code is made, with each place.
func few(long int) []api.Instr {
	l := []api.Instr{in(api.OpAtom), in(api.OpPop), in(api.OpReturn), in(api.OpThrow)}
	for a := range long {
		l = append(l, in(api.OpFalse, a), in(api.OpKeepTrue, a))
		if a > 0 {
			l = append(l, in(api.OpJump, a))
		}
		if a < long-1 {
			l = append(l, in(api.OpLoop, a))
		}
	}
	return l
}

// fillAll goes through all ways to fill code from a place on that have no fault by P11.3.
func fillAll(c []api.Instr, at int, each func()) {
	if at == len(c) {
		each()
		return
	}
	for _, i := range few(len(c)) {
		ahead := i.Op == api.OpFalse || i.Op == api.OpKeepTrue || i.Op == api.OpJump
		if ahead && i.A <= at || i.Op == api.OpLoop && i.A > at {
			continue
		}
		c[at] = i
		fillAll(c, at+1, each)
	}
}

// allTries are all that may be in code of some length.
func allTries(long int) []api.Try {
	var l []api.Try
	for target := range long {
		for to := range target + 1 {
			for from := range to {
				for depth := range 2 {
					l = append(l, api.Try{From: from, To: to, Target: target, Depth: depth})
				}
			}
		}
	}
	return l
}

// P11.4: all code of at most four of few's instructions: without a Try, with each one (of the longest code an eighth of them), and with some pairs.
func TestShortCode(t *testing.T) {
	came := map[api.Errno]int{}
	for long := 1; long <= 4; long++ {
		tries := allTries(long)
		count := 0
		c := make([]api.Instr, long)
		fillAll(c, 0, func() {
			count++
			came[checkAgainstModel(t, one(c...))]++
			for i := range tries {
				if long == 4 && (i+count)%8 != 0 {
					continue
				}
				came[checkAgainstModel(t, tried(tries[i:i+1], c...))]++
				second := tries[(i*7+count)%len(tries)]
				came[checkAgainstModel(t, tried([]api.Try{tries[i], second}, c...))]++
			}
		})
	}
	if len(came) != 2 || came[api.OK] < 1000 || came[api.ErrForm] < 1000 {
		t.Error(came)
	}
}

// walker runs a function as P10.1 and P10.2 have it, on a stack, with values left out; where something is open it draws.
type walker struct {
	drawer
	words []word
	stack []byte
}

// step is one instruction; where it goes on, or -1.
func (w *walker) step(im api.Image, c api.Code, at int) int {
	i := c.Code[at]
	takes := (&model{Image: im, words: w.words}).taken(i)
	w.stack = w.stack[:len(w.stack)-takes]
	op := w.words[i.Op]
	throws := op.goes == "thrown" || op.goes != "A" && op.goes != "end" && w.Intn(6) == 0
	if throws {
		for _, t := range c.Tries {
			if t.From <= at && at < t.To {
				w.stack = append(w.stack[:t.Depth:len(w.stack)], 't')
				return t.Target
			}
		}
		return -1
	}
	w.stack = append(w.stack, strings.Repeat("v", int(op.puts[0]-'0'))...)
	switch {
	case op.goes == "end":
		return -1
	case op.goes == "A":
		return i.A
	case op.goes == "both" && w.Intn(2) == 0:
		return i.A
	case op.goes == "keep" && w.Intn(2) == 0:
		w.stack = append(w.stack, 'k')
		return i.A
	}
	return at + 1
}

// P11.6: a stack that grows and shrinks as the instructions say is as high as Heights tells, wherever it comes.
func TestHeightsAgreeWithRuns(t *testing.T) {
	w := &walker{drawer: drawer{Rand: rand.New(rand.NewSource(13))}, words: table()}
	steps, taken := 0, 0
	for range 6000 {
		im := w.image()
		for range w.Intn(3) {
			w.spoil(&im)
		}
		if _, _, e := Check(im); e != api.OK {
			continue
		}
		taken++
		for f, c := range im.Funs {
			h, e := Heights(im, f)
			if e != api.OK {
				t.Fatal(e)
			}
			for range 20 {
				w.stack = w.stack[:0]
				for at, n := 0, 0; at >= 0 && n < 200; n++ {
					if at >= len(h) || len(w.stack) != h[at] || h[at] < 0 || h[at] > api.MaxStack {
						t.Fatalf("%+v: function %d at %d: %d on the stack, not %v", im, f, at, len(w.stack), h)
					}
					at = w.step(im, c, at)
					steps++
				}
			}
		}
	}
	if steps < 500000 || taken < 2000 {
		t.Error(steps, taken)
	}
}

// Rules: Check and Heights end at all that they are given.
func TestWildImages(t *testing.T) {
	d := &drawer{Rand: rand.New(rand.NewSource(14))}
	number := func() int {
		if l := far(); d.Intn(8) == 0 {
			return l[d.Intn(len(l))]
		}
		return d.Intn(5) - d.Intn(2)
	}
	came := map[api.Errno]int{}
	for range 30000 {
		im := api.Image{Globals: 1, Strs: make([]string, 1+d.Intn(3))}
		for range d.Intn(3) {
			im.Keys = append(im.Keys, slices.Repeat([]int{d.Intn(3)}, d.Intn(10)/5))
		}
		for f := range d.Intn(3) {
			c := api.Code{Slots: 2}
			if f > 0 {
				c.Params = d.Intn(2)
				c.Boxes = slices.Repeat([]int{0}, d.Intn(10)/9)
				c.Caps = slices.Repeat([]api.Cap{{Own: d.Intn(2), N: number()}}, d.Intn(3))
			}
			for range 1 + d.Intn(3) {
				c.Code = append(c.Code, api.Instr{Op: d.Intn(api.Ops + 1), A: number() * d.Intn(2), B: d.Intn(20) / 19})
			}
			for range d.Intn(12) / 11 {
				c.Tries = append(c.Tries, api.Try{From: number(), To: number(), Target: number(), Depth: number()})
			}
			if d.Intn(2) == 0 {
				c.Code = append(c.Code, ends()...)
			}
			im.Funs = append(im.Funs, c)
		}
		came[checkAgainstModel(t, im)]++
	}
	for _, e := range []api.Errno{api.OK, api.ErrMany, api.ErrArg, api.ErrKind, api.ErrRange, api.ErrForm} {
		if came[e] < 200 {
			t.Errorf("%d came %d times", e, came[e])
		}
	}
}
