package verify

import (
	"slices"
	"strconv"
	"testing"

	"jacquard/api"
)

// own is where the instruction that is asked for stands in wide's function 1: nothing comes to it, so that its heights are never asked.
const own = 2

// wide has of everything another number: 3 Strs, 5 Keys, 7 Globals, 4 Funs; its function 1 has 2 Params, 6 Slots, 8 Caps, 9 instructions.
func wide() api.Image {
	im := api.Image{
		Strs:    []string{"a", "b", "a"},
		Keys:    [][]int{{}, {0}, {0, 1}, {1, 2}, {2}},
		Globals: 7,
		Funs:    many(4),
	}
	c := &im.Funs[1]
	c.Params, c.Slots, c.Boxes, c.Caps = 2, 6, []int{1}, make([]api.Cap, 8)
	c.Code = append(ends(), in(api.OpPop), in(api.OpPop), in(api.OpPop), in(api.OpPop), in(api.OpPop), in(api.OpPop), in(api.OpPop))
	c.Tries = []api.Try{{From: 0, To: 1, Target: 8}, {From: 2, To: 5, Target: 7, Depth: 3}}
	c.Code[8] = in(api.OpReturn)
	return im
}

// wideWith has an instruction in the place that is asked for.
func wideWith(i api.Instr) api.Image {
	im := wide()
	im.Funs[1].Code[own] = i
	return im
}

type span struct{ op, least, most int }

// spans are where A may be in wide's function 1, at own.
func spans() []span {
	return []span{
		{0, -2305843009213693952, 2305843009213693951}, // int
		{1, 0, 2},    // atom
		{2, 0, 2},    // str
		{3, 0, 29},   // prim
		{4, 0, 0},    // pop
		{5, 0, 5},    // load
		{6, 0, 5},    // store
		{7, 0, 5},    // box
		{8, 0, 5},    // loadcell
		{9, 0, 5},    // storecell
		{10, 0, 7},   // loadcap
		{11, 0, 7},   // storecap
		{12, 0, 6},   // loadglobal
		{13, 0, 6},   // storeglobal
		{14, 0, 255}, // list
		{15, 0, 4},   // rec
		{16, 1, 3},   // fun
		{17, 0, 10},  // bin
		{18, 0, 0},   // not
		{19, 0, 0},   // neg
		{20, 3, 8},   // jump
		{21, 3, 8},   // false
		{22, 3, 8},   // keepfalse
		{23, 3, 8},   // keeptrue
		{24, 0, 2},   // loop
		{25, 0, 255}, // call
		{26, 0, 255}, // spawn
		{27, 0, 0},   // return
		{28, 0, 0},   // throw
		{29, 0, 0},   // index
		{30, 0, 0},   // setindex
		{31, 0, 2},   // field
		{32, 0, 2},   // setfield
	}
}

// P11.3
func TestRangeOfA(t *testing.T) {
	for op, s := range spans() {
		if s.op != op {
			t.Fatal(op)
		}
		tried := append(far(), s.least, s.least-1, s.most, s.most+1)
		for a := -300; a <= 300; a++ {
			tried = append(tried, a)
		}
		for _, a := range tried {
			name := strconv.Itoa(op) + " with " + strconv.Itoa(a)
			if a >= s.least && a <= s.most {
				checkRight(t, name, wideWith(in(op, a)))
			} else {
				checkFault(t, name, wideWith(in(op, a)), 1, own, api.ErrRange)
			}
		}
	}
}

// P11.3: B is 0, whatever A is.
func TestB(t *testing.T) {
	for _, s := range spans() {
		for _, b := range append(far(), 1, -1, 2) {
			for _, a := range []int{s.least, s.most, s.most + 1} {
				checkFault(t, strconv.Itoa(s.op), wideWith(api.Instr{Op: s.op, A: a, B: b}), 1, own, api.ErrRange)
			}
		}
	}
}

// P11.3: ErrKind is ahead of ErrRange.
func TestNoInstruction(t *testing.T) {
	for _, op := range append(far(), -1, 33, 34, 64, 255, 256, 256+20) {
		for _, i := range []api.Instr{{Op: op}, {Op: op, A: 1}, {Op: op, A: -1, B: 5}} {
			checkFault(t, strconv.Itoa(op), wideWith(i), 1, own, api.ErrKind)
		}
	}
}

// P11.3: where there is nothing, there is no place.
func TestNothingToName(t *testing.T) {
	for _, op := range []int{
		api.OpStr, api.OpField, api.OpSetField, api.OpLoad, api.OpStore, api.OpBox, api.OpLoadCell, api.OpStoreCell,
		api.OpLoadCap, api.OpStoreCap, api.OpLoadGlobal, api.OpStoreGlobal, api.OpRec, api.OpFun,
	} {
		for a := range 2 {
			checkFault(t, strconv.Itoa(op), one(in(api.OpAtom), in(api.OpReturn), in(op, a)), 0, 2, api.ErrRange)
		}
	}
}

// P11.3: slots and Caps are the own function's.
func TestOwnSlotsAndCaps(t *testing.T) {
	im := api.Image{Funs: many(3)}
	im.Funs[0].Slots, im.Funs[1].Slots, im.Funs[2].Slots = 2, 4, 3
	im.Funs[1].Caps, im.Funs[2].Caps = make([]api.Cap, 3), make([]api.Cap, 1)
	for f, c := range im.Funs {
		for a := range 6 {
			for op, has := range map[int]int{api.OpLoad: c.Slots, api.OpLoadCap: len(c.Caps)} {
				im.Funs[f].Code = []api.Instr{in(op, a), in(api.OpReturn)}
				if a < has {
					checkRight(t, "there", im)
				} else {
					checkFault(t, "not there", im, f, 0, api.ErrRange)
				}
			}
		}
		im.Funs[f].Code = ends()
	}
}

// led is code of so many instructions to which nothing comes but the first one and the last two.
func led(long int) []api.Instr {
	c := slices.Repeat([]api.Instr{in(api.OpReturn)}, long)
	c[0] = in(api.OpJump, long-2)
	c[long-2] = in(api.OpAtom)
	return c
}

// P11.3: what goes on elsewhere, at each place of its own.
func TestPlacesToGoOn(t *testing.T) {
	const long = 8
	for at := 1; at < long-2; at++ {
		for a := -2; a <= long+2; a++ {
			for _, op := range []int{api.OpJump, api.OpFalse, api.OpKeepFalse, api.OpKeepTrue, api.OpLoop} {
				right := a > at && a < long
				if op == api.OpLoop {
					right = a >= 0 && a <= at
				}
				c := led(long)
				c[at] = in(op, a)
				name := strconv.Itoa(op) + " at " + strconv.Itoa(at) + " to " + strconv.Itoa(a)
				if right {
					checkRight(t, name, one(c...))
				} else {
					checkFault(t, name, one(c...), 0, at, api.ErrRange)
				}
			}
		}
	}
	checkFault(t, "a jump to itself", one(in(api.OpJump, 0)), 0, 0, api.ErrRange)
	checkFault(t, "a jump behind all", one(in(api.OpJump, 1)), 0, 0, api.ErrRange)
	checkRight(t, "a loop to itself", one(in(api.OpLoop, 0)))
}

// making is an image where function 1 makes function 2, which takes caps; nothing comes to that.
func making(maker api.Code, caps ...api.Cap) api.Image {
	im := api.Image{Funs: many(3)}
	maker.Code = append(ends(), in(api.OpFun, 2))
	im.Funs[1], im.Funs[2].Caps = maker, caps
	return im
}

// P11.3: each Cap is by its Own a slot, or a Cap, of the function that makes it.
func TestFunTakes(t *testing.T) {
	maker := api.Code{Slots: 4, Caps: make([]api.Cap, 2)}
	for _, n := range append(far(), -1, 0, 1, 2, 3, 4, 5) {
		for own, has := range []int{2, 4} {
			c := api.Cap{Own: own, N: n}
			for name, im := range map[string]api.Image{
				"alone": making(maker, c),
				"last":  making(maker, api.Cap{Own: 1, N: 3}, api.Cap{Own: 0, N: 1}, c),
				"first": making(maker, c, api.Cap{Own: 0, N: 0}, api.Cap{Own: 1, N: 0}),
			} {
				if n >= 0 && n < has {
					checkRight(t, name, im)
				} else {
					checkFault(t, name, im, 1, 2, api.ErrRange)
				}
			}
		}
	}
	checkRight(t, "nothing taken", making(api.Code{}))
	checkFault(t, "a slot, where there is none", making(api.Code{Caps: make([]api.Cap, 9)}, api.Cap{Own: 1}), 1, 2, api.ErrRange)
	checkFault(t, "a Cap, where there is none", making(api.Code{Slots: 9}, api.Cap{Own: 0}), 1, 2, api.ErrRange)
}

// P11.3: a function may make itself, and all but the first one others; what another function has plays no part.
func TestFunMakers(t *testing.T) {
	im := api.Image{Funs: many(3)}
	im.Funs[2].Slots = 3
	im.Funs[2].Caps = []api.Cap{{Own: 1, N: 2}, {Own: 0, N: 1}}
	checkRight(t, "not made", im)
	im.Funs[2].Code[0] = in(api.OpFun, 2)
	checkRight(t, "made by itself", im)
	im.Funs[0].Slots = 9
	im.Funs[0].Code[0] = in(api.OpFun, 2)
	checkFault(t, "made by the first, which has no Caps", im, 0, 0, api.ErrRange)
	im.Funs[2].Caps[1] = api.Cap{Own: 1, N: 2}
	checkRight(t, "made by both", im)
	im.Funs[0].Slots = 2
	checkFault(t, "made by the first, which has few slots", im, 0, 0, api.ErrRange)
	im.Funs[0].Code[0] = in(api.OpFun, 0)
	checkFault(t, "the first one made by itself", im, 0, 0, api.ErrRange)
	im.Funs[0].Code = ends()
	im.Funs[1].Code[0] = in(api.OpFun, 0)
	checkFault(t, "the first one made", im, 1, 0, api.ErrRange)
	im.Funs[1].Code[0] = in(api.OpFun, 3)
	checkFault(t, "one that is not there", im, 1, 0, api.ErrRange)
}

// P11.3: at the number of instructions.
func TestRangeOfTries(t *testing.T) {
	const long = 4
	inner := func(try api.Try) api.Image {
		return tried([]api.Try{{From: 3, To: 3, Target: 3}, try}, in(api.OpJump, 2), in(api.OpReturn), in(api.OpAtom), in(api.OpReturn))
	}
	for from := -2; from <= long+1; from++ {
		for to := -2; to <= long+1; to++ {
			for target := -2; target <= long+1; target++ {
				try := api.Try{From: from, To: to, Target: target}
				right := from >= 0 && to >= from && target >= to && target < long
				_, _, e := Check(inner(try))
				if right && e == api.ErrRange || !right && e != api.ErrRange {
					t.Errorf("%v: %d", try, e)
				}
				if !right {
					checkFault(t, "a Try", inner(try), 0, long, api.ErrRange)
				}
			}
		}
	}
	for _, n := range far() {
		for _, try := range []api.Try{{From: n, To: 1, Target: 1}, {To: n, Target: 1}, {Target: n}, {Depth: n}, {From: n, To: n, Target: n}} {
			checkFault(t, "far", inner(try), 0, long, api.ErrRange)
		}
	}
	for _, depth := range []int{0, 1, 254, api.MaxStack - 1} {
		checkRight(t, "Depth", inner(api.Try{From: 1, To: 2, Target: 3, Depth: depth}))
	}
	for _, depth := range []int{-1, api.MaxStack, api.MaxStack + 1} {
		checkFault(t, "Depth", inner(api.Try{From: 1, To: 2, Target: 3, Depth: depth}), 0, long, api.ErrRange)
	}
}

// P11.3: the first instruction that has a fault, and behind all of them the Tries.
func TestOrderOfInstructions(t *testing.T) {
	im := wide()
	im.Funs[1].Tries[1].Depth = -1
	checkFault(t, "a Try", im, 1, 9, api.ErrRange)
	im.Funs[2].Code[0] = in(-1)
	checkFault(t, "a Try of an earlier function", im, 1, 9, api.ErrRange)
	im.Funs[1].Code[8] = in(33)
	checkFault(t, "the last instruction", im, 1, 8, api.ErrKind)
	im.Funs[1].Code[4] = in(api.OpStr, 3)
	checkFault(t, "one ahead of it", im, 1, 4, api.ErrRange)
	im.Funs[0].Code[1] = in(api.OpReturn, 1)
	checkFault(t, "one of the first function", im, 0, 1, api.ErrRange)
	im.Funs[3].Slots = -1
	checkFault(t, "a frame", im, 3, 0, api.ErrMany)
}
