package verify

import (
	"math"
	"reflect"
	"slices"
	"testing"

	"jacquard/api"
)

func in(op int, a ...int) api.Instr {
	if len(a) > 0 {
		return api.Instr{Op: op, A: a[0]}
	}
	return api.Instr{Op: op}
}

// one is an image with one function, without anything else.
func one(l ...api.Instr) api.Image {
	return api.Image{Funs: []api.Code{{Code: l}}}
}

// tried is one with Tries.
func tried(tries []api.Try, l ...api.Instr) api.Image {
	im := one(l...)
	im.Funs[0].Tries = tries
	return im
}

// ends is code that does nothing.
func ends() []api.Instr {
	return []api.Instr{in(api.OpAtom), in(api.OpReturn)}
}

// many are so many functions that do nothing.
func many(n int) []api.Code {
	l := make([]api.Code, n)
	for i := range l {
		l[i].Code = ends()
	}
	return l
}

// ints are so many instructions that put a number.
func ints(n int) []api.Instr {
	return slices.Repeat([]api.Instr{in(api.OpInt, 7)}, n)
}

// far are numbers far away from all places.
func far() []int {
	return []int{1 << 31, 1 << 32, 1<<32 + 1, -1 << 32, api.MaxInt, api.MinInt, math.MaxInt, math.MinInt, math.MinInt + 1}
}

// checkFault: Heights answers the same error, and nothing beside it, whatever function it is asked for.
func checkFault(t *testing.T, name string, im api.Image, fun, at int, e api.Errno) {
	t.Helper()
	if f, place, got := Check(im); f != fun || place != at || got != e {
		t.Errorf("%s: function %d, at %d, %d, not function %d, at %d, %d", name, f, place, got, fun, at, e)
	}
	for _, f := range []int{0, fun, -1, len(im.Funs)} {
		if h, got := Heights(im, f); got != e || len(h) > 0 {
			t.Errorf("%s: heights of %d: %v, %d, not %d", name, f, h, got, e)
		}
	}
}

func checkRight(t *testing.T, name string, im api.Image) {
	t.Helper()
	if f, at, e := Check(im); f != 0 || at != 0 || e != api.OK {
		t.Errorf("%s: function %d, at %d, %d", name, f, at, e)
	}
}

// checkHeights: of the first function.
func checkHeights(t *testing.T, name string, im api.Image, want ...int) {
	t.Helper()
	checkRight(t, name, im)
	if h, e := Heights(im, 0); e != api.OK || !slices.Equal(h, want) {
		t.Errorf("%s: %v, %d, not %v", name, h, e, want)
	}
}

// The chapter's examples, and the document's.
func TestExamples(t *testing.T) {
	checkHeights(t, "int 1; return", one(in(api.OpInt, 1), in(api.OpReturn)), 0, 1)
	checkFault(t, "return", one(in(api.OpReturn)), 0, 0, api.ErrForm)
	checkFault(t, "int 1", one(in(api.OpInt, 1)), 0, 0, api.ErrForm)
}

// P11.5: each fault hides those of what comes behind it.
func TestOrderOfFaults(t *testing.T) {
	im := api.Image{
		Globals: -1,
		Keys:    [][]int{{0}},
		Funs:    many(4),
	}
	im.Funs[1].Code = []api.Instr{in(api.OpPop), in(api.OpReturn)}        // heights
	im.Funs[2].Code = []api.Instr{in(api.OpAtom), in(api.Ops)}            // an instruction
	im.Funs[3].Params = 17                                                // a frame
	im.Funs[3].Code = []api.Instr{in(api.OpLoad), in(api.OpReturn)}       // an instruction
	im.Funs[0].Code = []api.Instr{in(api.OpAtom), in(api.OpPop)}          // heights
	im.Funs[1].Tries = []api.Try{{From: 0, To: 0, Target: 2}}             // a Try
	im.Funs[2].Tries = []api.Try{{From: 0, To: 0, Target: 0}, {From: -1}} // the second Try
	checkFault(t, "Globals", im, 0, 0, api.ErrMany)
	im.Globals = 0
	checkFault(t, "Keys", im, 0, 0, api.ErrArg)
	im.Strs = []string{""}
	checkFault(t, "a frame", im, 3, 0, api.ErrMany)
	im.Funs[3].Params, im.Funs[3].Boxes = 1, []int{0}
	checkFault(t, "its slots", im, 3, 0, api.ErrMany)
	im.Funs[3].Slots, im.Funs[3].Boxes = 1, []int{1}
	checkFault(t, "its boxes", im, 3, 0, api.ErrArg)
	im.Funs[3].Boxes = nil
	checkFault(t, "a Try of an earlier function", im, 1, 2, api.ErrRange)
	im.Funs[1].Tries = nil
	checkFault(t, "an instruction ahead of a Try", im, 2, 1, api.ErrKind)
	im.Funs[2].Code[1] = in(api.OpReturn)
	checkFault(t, "a Try", im, 2, 2, api.ErrRange)
	im.Funs[2].Tries = nil
	im.Funs[3].Code[1] = in(api.OpReturn, 1)
	checkFault(t, "an instruction of the last function", im, 3, 1, api.ErrRange)
	im.Funs[3].Code[1] = in(api.OpReturn)
	checkFault(t, "heights of the first function", im, 0, 1, api.ErrForm)
	im.Funs[0].Code[1] = in(api.OpThrow)
	checkFault(t, "heights of the second function", im, 1, 0, api.ErrForm)
	im.Funs[1].Code[0] = in(api.OpPrim, 29)
	checkRight(t, "all mended", im)
}

// P11.5
func TestHeightsOfEachFunction(t *testing.T) {
	im := api.Image{Funs: many(3)}
	im.Funs[1].Code = []api.Instr{in(api.OpJump, 2), in(api.OpPop), in(api.OpAtom), in(api.OpReturn)}
	im.Funs[2].Code = []api.Instr{in(api.OpLoop)}
	for f, want := range [][]int{{0, 1}, {0, -1, 0, 1}, {0}} {
		if h, e := Heights(im, f); e != api.OK || !slices.Equal(h, want) {
			t.Errorf("%d: %v, %d", f, h, e)
		}
	}
	for _, f := range append(far(), -1, 3, 4, -3) {
		if h, e := Heights(im, f); e != api.ErrArg || len(h) > 0 {
			t.Errorf("%d: %v, %d", f, h, e)
		}
	}
}

// clone makes an image anew, with spare room in each list that is filled.
func clone(im api.Image) api.Image {
	im.Strs = roomy(im.Strs, "spare")
	im.Keys = roomy(im.Keys, []int{55})
	for i, l := range im.Keys {
		im.Keys[i] = roomy(l, 55)
	}
	im.Funs = roomy(im.Funs, api.Code{Params: 55})
	for i, c := range im.Funs {
		c.Boxes = roomy(c.Boxes, 55)
		c.Caps = roomy(c.Caps, api.Cap{Own: 55})
		c.Code = roomy(c.Code, api.Instr{Op: 55})
		c.Tries = roomy(c.Tries, api.Try{From: 55})
		im.Funs[i] = c
	}
	return im
}

func roomy[T any](l []T, spare T) []T {
	return append(slices.Clone(l), spare, spare)[:len(l)]
}

// stretched is an image with its lists' spare room as entries.
func stretched(im api.Image) api.Image {
	im.Strs = im.Strs[:cap(im.Strs)]
	im.Keys = slices.Clone(im.Keys[:cap(im.Keys)])
	for i, l := range im.Keys {
		im.Keys[i] = l[:cap(l)]
	}
	im.Funs = slices.Clone(im.Funs[:cap(im.Funs)])
	for i, c := range im.Funs {
		c.Boxes, c.Caps, c.Code, c.Tries = c.Boxes[:cap(c.Boxes)], c.Caps[:cap(c.Caps)], c.Code[:cap(c.Code)], c.Tries[:cap(c.Tries)]
		im.Funs[i] = c
	}
	return im
}

// Rules: what is handed in is neither changed nor kept, its spare room included, and no two answers share anything.
func TestMemory(t *testing.T) {
	im, kept := clone(wide()), stretched(clone(wide()))
	first, e := Heights(im, 1)
	second, _ := Heights(im, 1)
	if e != api.OK || len(first) == 0 {
		t.Fatal(first, e)
	}
	if _, _, e := Check(im); e != api.OK || !reflect.DeepEqual(stretched(im), kept) {
		t.Error("what was handed in is changed")
	}
	was := slices.Clone(first)
	for i := range second[:cap(second)] {
		second[:cap(second)][i] = 77
	}
	im.Funs[1].Code[0] = in(api.OpThrow)
	if !slices.Equal(first, was) {
		t.Error("answers share something")
	}
	if third, e := Heights(wide(), 1); e != api.OK || !slices.Equal(third, was) {
		t.Error("something was kept")
	}
}
