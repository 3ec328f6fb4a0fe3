package verify

import (
	"slices"
	"strconv"
	"testing"

	"jacquard/api"
)

// effect is an instruction as P10.1's table has it, with an A that is right in full at any place but the last.
type effect struct {
	op    int
	a     int
	takes int
	puts  int
}

// effects are without those that do not go on at the next instruction alone.
func effects() []effect {
	return []effect{
		{api.OpInt, -5, 0, 1},
		{api.OpAtom, 2, 0, 1},
		{api.OpStr, 1, 0, 1},
		{api.OpPrim, 29, 0, 1},
		{api.OpPop, 0, 1, 0},
		{api.OpLoad, 1, 0, 1},
		{api.OpStore, 1, 1, 0},
		{api.OpBox, 1, 0, 0},
		{api.OpLoadCell, 1, 0, 1},
		{api.OpStoreCell, 1, 1, 0},
		{api.OpLoadCap, 1, 0, 1},
		{api.OpStoreCap, 1, 1, 0},
		{api.OpLoadGlobal, 1, 0, 1},
		{api.OpStoreGlobal, 1, 1, 0},
		{api.OpList, 0, 0, 1},
		{api.OpList, 1, 1, 1},
		{api.OpList, 7, 7, 1},
		{api.OpList, 255, 255, 1},
		{api.OpRec, 0, 0, 1},
		{api.OpRec, 1, 2, 1},
		{api.OpFun, 1, 0, 1},
		{api.OpBin, 10, 2, 1},
		{api.OpNot, 0, 1, 1},
		{api.OpNeg, 0, 1, 1},
		{api.OpCall, 0, 1, 1},
		{api.OpCall, 1, 2, 1},
		{api.OpCall, 255, 256, 1},
		{api.OpSpawn, 0, 1, 1},
		{api.OpSpawn, 4, 5, 1},
		{api.OpSpawn, 255, 256, 1},
		{api.OpIndex, 0, 2, 1},
		{api.OpSetIndex, 0, 3, 0},
		{api.OpField, 1, 1, 1},
		{api.OpSetField, 1, 2, 0},
	}
}

// full has a function 1 with code, and of everything two.
func full(tries []api.Try, l ...api.Instr) api.Image {
	im := api.Image{Strs: []string{"a", "b"}, Keys: [][]int{{}, {0, 1}}, Globals: 2, Funs: many(2)}
	im.Funs[1] = api.Code{Params: 1, Slots: 2, Caps: make([]api.Cap, 2), Code: l, Tries: tries}
	return im
}

// row is code of several pieces.
func row(l ...[]api.Instr) []api.Instr { return slices.Concat(l...) }

// heightAt is the height in full's function 1.
func heightAt(t *testing.T, im api.Image, at int) int {
	t.Helper()
	h, e := Heights(im, 1)
	if e != api.OK {
		t.Errorf("%v: %d", im.Funs[1].Code[:at], e)
		return nowhere
	}
	return h[at]
}

// P11.4, P11.6
func TestTakesAndPuts(t *testing.T) {
	for _, x := range effects() {
		name := strconv.Itoa(x.op) + " with " + strconv.Itoa(x.a)
		for _, more := range []int{0, 1, 100} {
			h := x.takes + more
			if h > api.MaxStack || h-x.takes+x.puts >= api.MaxStack {
				continue
			}
			im := full(nil, row(ints(h), []api.Instr{in(x.op, x.a)}, ends())...)
			if got := heightAt(t, im, h); got != h {
				t.Errorf("%s: %d at it", name, got)
			}
			if got := heightAt(t, im, h+1); got != more+x.puts {
				t.Errorf("%s: %d behind it", name, got)
			}
		}
		for _, less := range []int{1, 2, x.takes} {
			if h := x.takes - less; h >= 0 && less > 0 {
				checkFault(t, name, full(nil, row(ints(h), []api.Instr{in(x.op, x.a)}, ends())...), 1, h, api.ErrForm)
			}
		}
	}
}

// P11.4: MaxStack is allowed, and nothing above it.
func TestMostOnTheStack(t *testing.T) {
	for _, x := range effects() {
		name := strconv.Itoa(x.op) + " with " + strconv.Itoa(x.a)
		im := full(nil, row(ints(256), []api.Instr{in(x.op, x.a), in(api.OpReturn)})...)
		if x.puts > x.takes {
			checkFault(t, name, im, 1, 256, api.ErrForm)
			im = full(nil, row(ints(255), []api.Instr{in(x.op, x.a), in(api.OpReturn)})...)
			if got := heightAt(t, im, 256); got != 256 {
				t.Errorf("%s: %d behind it", name, got)
			}
		} else if h := 256 - x.takes + x.puts; h > 0 {
			if got := heightAt(t, im, 257); got != h {
				t.Errorf("%s: %d behind it", name, got)
			}
		}
	}
	for _, op := range []int{api.OpFalse, api.OpKeepFalse, api.OpKeepTrue, api.OpJump} {
		l := row(ints(256), []api.Instr{in(op, 258), in(api.OpReturn), in(api.OpReturn)})
		checkRight(t, strconv.Itoa(op), one(l...))
	}
}

// P11.4: nothing goes on behind the last instruction.
func TestLastInstruction(t *testing.T) {
	for _, x := range effects() {
		h := x.takes
		checkFault(t, strconv.Itoa(x.op), full(nil, row(ints(h), []api.Instr{in(x.op, x.a)})...), 1, h, api.ErrForm)
	}
	checkHeights(t, "loop", one(in(api.OpLoop)), 0)
	checkHeights(t, "throw", one(in(api.OpAtom), in(api.OpThrow)), 0, 1)
	checkHeights(t, "return", one(in(api.OpAtom), in(api.OpReturn)), 0, 1)
	checkFault(t, "return without anything", one(in(api.OpReturn)), 0, 0, api.ErrForm)
	checkFault(t, "throw without anything", one(in(api.OpThrow)), 0, 0, api.ErrForm)
}

// P11.4: what is on the stack at a return, or a throw, may be more.
func TestMoreThanIsTaken(t *testing.T) {
	checkHeights(t, "return", one(in(api.OpAtom), in(api.OpAtom), in(api.OpReturn)), 0, 1, 2)
	checkHeights(t, "throw", one(in(api.OpAtom), in(api.OpAtom), in(api.OpThrow)), 0, 1, 2)
}

// P11.4
func TestWhereChoicesGoOn(t *testing.T) {
	checkHeights(t, "false", one(in(api.OpAtom), in(api.OpFalse, 4), in(api.OpAtom), in(api.OpReturn), in(api.OpAtom), in(api.OpReturn)), 0, 1, 0, 1, 0, 1)
	for _, op := range []int{api.OpKeepFalse, api.OpKeepTrue} {
		checkHeights(t, "kept", one(in(api.OpAtom), in(op, 3), in(api.OpAtom), in(api.OpReturn)), 0, 1, 0, 1)
		checkHeights(t, "kept higher", one(in(api.OpAtom), in(api.OpAtom), in(op, 5), in(api.OpAtom), in(api.OpReturn), in(api.OpThrow)), 0, 1, 2, 1, 2, 2)
		checkFault(t, "both ways at one place", one(in(api.OpAtom), in(api.OpAtom), in(op, 3), in(api.OpReturn)), 0, 3, api.ErrForm)
		checkFault(t, "nothing to keep", one(in(op, 1), in(api.OpLoop, 0)), 0, 0, api.ErrForm)
	}
	checkHeights(t, "false to the next one", one(in(api.OpAtom), in(api.OpFalse, 2), in(api.OpAtom), in(api.OpReturn)), 0, 1, 0, 1)
	checkFault(t, "nothing to choose by", one(in(api.OpFalse, 1), in(api.OpLoop, 0)), 0, 0, api.ErrForm)
}

// P11.4: jump and loop go on at A alone, return and throw nowhere; what nothing comes to is not asked.
func TestNotComeTo(t *testing.T) {
	checkHeights(t, "jump", one(in(api.OpJump, 2), in(api.OpPop), in(api.OpAtom), in(api.OpReturn)), 0, -1, 0, 1)
	checkHeights(t, "loop", one(in(api.OpLoop, 0), in(api.OpPop), in(api.OpBin)), 0, -1, -1)
	checkHeights(t, "return", one(in(api.OpAtom), in(api.OpReturn), in(api.OpSetIndex)), 0, 1, -1)
	checkHeights(t, "throw", one(in(api.OpAtom), in(api.OpThrow), in(api.OpSetIndex), in(api.OpPop)), 0, 1, -1, -1)
	checkHeights(t, "what leads to it is not come to", one(in(api.OpAtom), in(api.OpReturn), in(api.OpJump, 3), in(api.OpPop)), 0, 1, -1, -1)
}

// P11.4: a place is told where it has two heights, by whatever it is come to.
func TestTwoHeights(t *testing.T) {
	checkFault(t, "ahead", one(in(api.OpAtom), in(api.OpFalse, 3), in(api.OpAtom), in(api.OpAtom), in(api.OpReturn)), 0, 3, api.ErrForm)
	checkFault(t, "back", one(in(api.OpAtom), in(api.OpLoop, 0)), 0, 0, api.ErrForm)
	checkFault(t, "back to itself is right, back to another is not", one(in(api.OpAtom), in(api.OpAtom), in(api.OpLoop, 1)), 0, 1, api.ErrForm)
	checkFault(t, "the next one comes first", one(in(api.OpAtom), in(api.OpAtom), in(api.OpKeepTrue, 4), in(api.OpJump, 4), in(api.OpReturn)), 0, 4, api.ErrForm)
	checkHeights(t, "one height by three ways", one(in(api.OpAtom), in(api.OpFalse, 5), in(api.OpAtom), in(api.OpFalse, 5), in(api.OpJump, 5), in(api.OpLoop, 0)), 0, 1, 0, 1, 0, 0)
}

// P11.4: what comes to the row first is gone through first, and the next one comes ahead of A.
func TestOrderOfTheRow(t *testing.T) {
	checkFault(t, "A's fault is nearer", one(in(api.OpAtom), in(api.OpFalse, 5), in(api.OpAtom), in(api.OpPop), in(api.OpPop), in(api.OpPop)), 0, 5, api.ErrForm)
	checkFault(t, "the next one's fault is as near", one(in(api.OpAtom), in(api.OpFalse, 4), in(api.OpPop), in(api.OpReturn), in(api.OpPop)), 0, 2, api.ErrForm)
	checkFault(t, "the next one's is nearer", one(in(api.OpAtom), in(api.OpFalse, 3), in(api.OpPop), in(api.OpJump, 4), in(api.OpPop)), 0, 2, api.ErrForm)
	checkFault(t, "two heights are told ahead of what waits in the row",
		one(in(api.OpAtom), in(api.OpFalse, 4), in(api.OpAtom), in(api.OpLoop, 0), in(api.OpJump, 5), in(api.OpAtom), in(api.OpPop)), 0, 0, api.ErrForm)
	checkFault(t, "what waits in the row is told ahead of two heights behind it",
		one(in(api.OpAtom), in(api.OpFalse, 5), in(api.OpAtom), in(api.OpInt), in(api.OpLoop, 0), in(api.OpNot), in(api.OpReturn)), 0, 5, api.ErrForm)
}

// P11.4
func TestTargets(t *testing.T) {
	thrown := []api.Instr{in(api.OpInt), in(api.OpThrow), in(api.OpReturn)}
	checkHeights(t, "a throw", tried([]api.Try{{From: 1, To: 2, Target: 2}}, thrown...), 0, 1, 1)
	checkHeights(t, "what is ahead of it", tried([]api.Try{{From: 0, To: 1, Target: 2}}, thrown...), 0, 1, 1)
	checkHeights(t, "nothing covered", tried([]api.Try{{From: 1, To: 1, Target: 2}}, thrown...), 0, 1, -1)
	checkHeights(t, "From is covered, To is not", tried([]api.Try{{From: 2, To: 3, Target: 5}},
		in(api.OpAtom), in(api.OpAtom), in(api.OpPop), in(api.OpPop), in(api.OpLoop), in(api.OpReturn)), 0, 1, 2, 1, 0, 1)
	for try, want := range map[api.Try]int{
		{From: 1, To: 2, Target: 4, Depth: 0}: 1,
		{From: 1, To: 3, Target: 4, Depth: 1}: 2,
		{From: 2, To: 3, Target: 4, Depth: 2}: 3,
	} {
		checkHeights(t, "Depth", tried([]api.Try{try}, in(api.OpAtom), in(api.OpAtom), in(api.OpInt), in(api.OpReturn), in(api.OpReturn)), 0, 1, 2, 3, want)
	}
	checkHeights(t, "a Target that is next", tried([]api.Try{{From: 0, To: 1, Target: 1}}, in(api.OpAtom), in(api.OpReturn)), 0, 1)
	checkFault(t, "a Target that is next with another height", tried([]api.Try{{From: 0, To: 1, Target: 2}}, in(api.OpAtom), in(api.OpAtom), in(api.OpReturn)), 0, 2, api.ErrForm)
}

// P11.4: a Depth is above what is left without what is taken, in whatever it covers.
func TestDepth(t *testing.T) {
	for _, x := range effects() {
		for more := range 3 {
			h := x.takes + more
			if h-x.takes+x.puts >= api.MaxStack || h > api.MaxStack {
				continue
			}
			l := row(ints(h), []api.Instr{in(x.op, x.a)}, ends(), []api.Instr{in(api.OpReturn)})
			for depth := range 5 {
				im := full([]api.Try{{From: h, To: h + 1, Target: h + 3, Depth: depth}}, l...)
				if depth > more {
					checkFault(t, strconv.Itoa(x.op), im, 1, h, api.ErrForm)
				} else if got := heightAt(t, im, h+3); got != depth+1 {
					t.Errorf("%d: %d at the Target", x.op, got)
				}
			}
		}
	}
}

// P11.4: so it is with what does not go on at the next one alone, which may take one.
func TestDepthOfOthers(t *testing.T) {
	for op, takes := range map[int]int{api.OpJump: 0, api.OpLoop: 0, api.OpFalse: 1, api.OpKeepFalse: 1, api.OpKeepTrue: 1, api.OpReturn: 1, api.OpThrow: 1} {
		for more := range 3 {
			h := takes + more
			a := 0
			switch op {
			case api.OpJump, api.OpFalse, api.OpKeepFalse, api.OpKeepTrue:
				a = h + 2
			case api.OpLoop:
				a = h
			}
			l := row(ints(h), []api.Instr{in(op, a), in(api.OpLoop, h+1), in(api.OpLoop, h+2), in(api.OpReturn)})
			for depth := range 5 {
				im := tried([]api.Try{{From: h, To: h + 1, Target: h + 3, Depth: depth}}, l...)
				if depth > more {
					checkFault(t, strconv.Itoa(op), im, 0, h, api.ErrForm)
				} else {
					checkRight(t, strconv.Itoa(op), im)
				}
			}
		}
	}
}

// P11.4: jump and loop go on at A alone, a return nowhere, so not at Targets either; a throw there alone, choices there, too.
func TestWhoGoesOnAtTargets(t *testing.T) {
	for op, want := range map[int]int{
		api.OpJump: -1, api.OpLoop: -1, api.OpReturn: -1,
		api.OpThrow: 1, api.OpFalse: 1, api.OpKeepFalse: 1, api.OpKeepTrue: 1, api.OpBox: 1, api.OpNot: 1, api.OpCall: 1,
	} {
		a := 0
		switch op {
		case api.OpJump, api.OpFalse, api.OpKeepFalse, api.OpKeepTrue:
			a = 3
		case api.OpLoop:
			a = 1
		}
		im := tried([]api.Try{{From: 1, To: 2, Target: 4}}, in(api.OpAtom), in(op, a), in(api.OpLoop, 2), in(api.OpLoop, 3), in(api.OpReturn))
		im.Funs[0].Slots = 1
		checkRight(t, strconv.Itoa(op), im)
		if h, _ := Heights(im, 0); len(h) != 5 || h[4] != want {
			t.Errorf("%d: %v", op, h)
		}
	}
}

// P11.4: all Tries that cover it count, in their order, behind the next one and A.
func TestSeveralTries(t *testing.T) {
	covered := []api.Try{{From: 0, To: 2, Target: 3}, {From: 1, To: 2, Target: 4, Depth: 1}, {From: 1, To: 2, Target: 5}}
	l := []api.Instr{in(api.OpAtom), in(api.OpAtom), in(api.OpReturn), in(api.OpReturn), in(api.OpReturn), in(api.OpThrow)}
	checkHeights(t, "three", tried(covered, l...), 0, 1, 2, 1, 2, 1)
	checkFault(t, "the last one is too deep", tried(append(slices.Clone(covered), api.Try{From: 1, To: 2, Target: 2, Depth: 2}), l...), 0, 1, api.ErrForm)
	checkFault(t, "two Depths of one Target", tried([]api.Try{{From: 1, To: 2, Target: 3}, {From: 1, To: 2, Target: 3, Depth: 1}}, l...), 0, 3, api.ErrForm)
	checkHeights(t, "one Depth, twice", tried([]api.Try{{From: 1, To: 2, Target: 3}, {From: 0, To: 2, Target: 3}}, l...), 0, 1, 2, 1, -1, -1)
	faulty := []api.Instr{in(api.OpAtom), in(api.OpFalse, 6), in(api.OpLoop, 2), in(api.OpBin), in(api.OpBin), in(api.OpLoop, 0), in(api.OpLoop, 6)}
	tries := []api.Try{{From: 1, To: 2, Target: 4}, {From: 1, To: 2, Target: 3}}
	checkFault(t, "the first Target's fault", tried(tries, faulty...), 0, 4, api.ErrForm)
	slices.Reverse(tries)
	checkFault(t, "the other way round", tried(tries, faulty...), 0, 3, api.ErrForm)
	faulty[6] = in(api.OpPop)
	faulty = append(faulty, in(api.OpLoop, 7))
	checkFault(t, "A's fault is ahead of Targets'", tried(tries, faulty...), 0, 6, api.ErrForm)
	faulty[2] = in(api.OpPop)
	checkFault(t, "the next one's is ahead of both", tried(tries, faulty...), 0, 2, api.ErrForm)
	checkFault(t, "a Target that was come to with another height", tried([]api.Try{{From: 0, To: 1, Target: 2}}, in(api.OpAtom), in(api.OpPop), in(api.OpLoop, 2)), 0, 2, api.ErrForm)
}

// P11.4: a Target may have MaxStack.
func TestDeepestTarget(t *testing.T) {
	l := row(ints(255), []api.Instr{in(api.OpBox), in(api.OpLoop, 256), in(api.OpReturn)})
	im := full([]api.Try{{From: 255, To: 256, Target: 257, Depth: 255}}, l...)
	if got := heightAt(t, im, 257); got != 256 {
		t.Error(got)
	}
	im.Funs[1].Code[257] = in(api.OpLoad)
	im.Funs[1].Code = append(im.Funs[1].Code, in(api.OpReturn))
	checkFault(t, "one more", im, 1, 257, api.ErrForm)
}

// P11.4: the longest code is gone through, be it in one row, or by jumps.
func TestLongestCode(t *testing.T) {
	const long = api.MaxCode
	c := slices.Repeat([]api.Instr{in(api.OpAtom), in(api.OpFalse, long-2)}, long/2)
	copy(c[long-2:], ends())
	checkRight(t, "choices", one(c...))
	h, e := Heights(one(c...), 0)
	if e != api.OK || len(h) != long || h[long-1] != 1 || h[long-3] != 1 || h[long-2] != 0 {
		t.Error(len(h), e)
	}
	c[long-3] = in(api.OpNot)
	checkFault(t, "a fault at its end", one(c...), 0, long-2, api.ErrForm)
}
