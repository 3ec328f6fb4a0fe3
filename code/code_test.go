package code

import (
	"math"
	"reflect"
	"testing"

	"jacquard/api"
)

// row is an instruction as the chapter's table has it; what list, rec, call and spawn take is asked for by itself.
type row struct {
	op    int
	name  string
	takes int
	puts  int
	safe  bool
}

func table() []row {
	return []row{
		{0, "int", 0, 1, false},
		{1, "atom", 0, 1, false},
		{2, "str", 0, 1, false},
		{3, "prim", 0, 1, false},
		{4, "pop", 1, 0, false},
		{5, "load", 0, 1, false},
		{6, "store", 1, 0, false},
		{7, "box", 0, 0, false},
		{8, "loadcell", 0, 1, false},
		{9, "storecell", 1, 0, false},
		{10, "loadcap", 0, 1, false},
		{11, "storecap", 1, 0, false},
		{12, "loadglobal", 0, 1, false},
		{13, "storeglobal", 1, 0, true},
		{14, "list", -1, 1, false},
		{15, "rec", -1, 1, false},
		{16, "fun", 0, 1, false},
		{17, "bin", 2, 1, false},
		{18, "not", 1, 1, false},
		{19, "neg", 1, 1, false},
		{20, "jump", 0, 0, false},
		{21, "false", 1, 0, false},
		{22, "keepfalse", 1, 0, false},
		{23, "keeptrue", 1, 0, false},
		{24, "loop", 0, 0, true},
		{25, "call", -1, 1, true},
		{26, "spawn", -1, 1, true},
		{27, "return", 1, 0, true},
		{28, "throw", 1, 0, false},
		{29, "index", 2, 1, false},
		{30, "setindex", 3, 0, false},
		{31, "field", 1, 1, false},
		{32, "setfield", 2, 0, false},
	}
}

// noOps are numbers that no instruction has.
func noOps() []int {
	return []int{-1, -2, 33, 34, 255, 256, 256 + 25, 1<<32 + 25, math.MaxInt, math.MinInt}
}

// edges are numbers of every sort, for an A that plays no part.
func edges() []int {
	return []int{0, 1, 2, -1, 32, 33, 255, 256, 65536, api.MaxInt, api.MinInt, math.MaxInt, math.MinInt}
}

// P10.1
func TestNameAndSafe(t *testing.T) {
	if rows := table(); len(rows) != api.Ops {
		t.Fatal(len(rows))
	}
	for i, r := range table() {
		if r.op != i || Name(r.op) != r.name || Safe(r.op) != r.safe {
			t.Errorf("%d: Name %q, Safe %v", r.op, Name(r.op), Safe(r.op))
		}
	}
	for _, op := range noOps() {
		if Name(op) != "" || Safe(op) {
			t.Errorf("%d: Name %q, Safe %v", op, Name(op), Safe(op))
		}
	}
}

// P10.1
func TestNumbersOfInstructions(t *testing.T) {
	for op, name := range map[int]string{
		api.OpInt: "int", api.OpAtom: "atom", api.OpStr: "str", api.OpPrim: "prim", api.OpPop: "pop", api.OpLoad: "load",
		api.OpStore: "store", api.OpBox: "box", api.OpLoadCell: "loadcell", api.OpStoreCell: "storecell",
		api.OpLoadCap: "loadcap", api.OpStoreCap: "storecap", api.OpLoadGlobal: "loadglobal",
		api.OpStoreGlobal: "storeglobal", api.OpList: "list", api.OpRec: "rec", api.OpFun: "fun", api.OpBin: "bin",
		api.OpNot: "not", api.OpNeg: "neg", api.OpJump: "jump", api.OpFalse: "false", api.OpKeepFalse: "keepfalse",
		api.OpKeepTrue: "keeptrue", api.OpLoop: "loop", api.OpCall: "call", api.OpSpawn: "spawn", api.OpReturn: "return",
		api.OpThrow: "throw", api.OpIndex: "index", api.OpSetIndex: "setindex", api.OpField: "field",
		api.OpSetField: "setfield",
	} {
		if Name(op) != name {
			t.Errorf("%d: %q, not %q", op, Name(op), name)
		}
	}
}

func checkEffect(t *testing.T, im api.Image, i api.Instr, pops, pushes int, e api.Errno) {
	t.Helper()
	if p, q, f := Effect(im, i); p != pops || q != pushes || f != e {
		t.Errorf("%v: %d %d %d, not %d %d %d", i, p, q, f, pops, pushes, e)
	}
}

// P10.1: where an instruction takes the same whatever its A and B are, nothing is asked of them.
func TestEffectOfMost(t *testing.T) {
	for _, im := range []api.Image{{}, {Keys: [][]int{{0, 1}}, Strs: []string{"a", "b"}, Globals: 3, Funs: make([]api.Code, 2)}} {
		for _, r := range table() {
			if r.takes < 0 {
				continue
			}
			for _, a := range edges() {
				checkEffect(t, im, api.Instr{Op: r.op, A: a}, r.takes, r.puts, api.OK)
				checkEffect(t, im, api.Instr{Op: r.op, A: a, B: a}, r.takes, r.puts, api.OK)
			}
		}
	}
}

// P10.1
func TestEffectByCount(t *testing.T) {
	for _, c := range []struct{ op, more int }{{api.OpList, 0}, {api.OpCall, 1}, {api.OpSpawn, 1}} {
		for a := range 256 {
			checkEffect(t, api.Image{}, api.Instr{Op: c.op, A: a}, a+c.more, 1, api.OK)
			checkEffect(t, api.Image{}, api.Instr{Op: c.op, A: a, B: -7}, a+c.more, 1, api.OK)
		}
		for _, a := range []int{-1, -2, 256, 257, 1 << 32, math.MaxInt, math.MinInt} {
			checkEffect(t, api.Image{}, api.Instr{Op: c.op, A: a}, 0, 0, api.ErrArg)
		}
	}
	checkEffect(t, api.Image{}, api.Instr{Op: api.OpCall, A: 2}, 3, 1, api.OK)
}

// P10.1: how many keys there are is not asked, nor what they are.
func TestEffectOfRec(t *testing.T) {
	var im api.Image
	for n := range 300 {
		l := make([]int, n)
		for i := range l {
			l[i] = -i
		}
		im.Keys = append(im.Keys, l)
	}
	im.Keys[0] = nil
	for n := range 300 {
		checkEffect(t, im, api.Instr{Op: api.OpRec, A: n, B: n}, n, 1, api.OK)
	}
	for _, a := range []int{-1, 300, 301, 1 << 32, math.MaxInt, math.MinInt} {
		checkEffect(t, im, api.Instr{Op: api.OpRec, A: a}, 0, 0, api.ErrArg)
	}
	for _, a := range []int{0, 1, -1} {
		checkEffect(t, api.Image{}, api.Instr{Op: api.OpRec, A: a}, 0, 0, api.ErrArg)
		checkEffect(t, api.Image{Strs: []string{"a", "b"}}, api.Instr{Op: api.OpRec, A: a}, 0, 0, api.ErrArg)
	}
}

// P10.1
func TestEffectOfNone(t *testing.T) {
	for _, op := range noOps() {
		for _, a := range edges() {
			checkEffect(t, api.Image{}, api.Instr{Op: op, A: a}, 0, 0, api.ErrKind)
		}
	}
}

// caught is where what is thrown at a place goes on by P10.2, and how high the stack is then; -1: nowhere.
func caught(c api.Code, place int) (int, int) {
	for _, t := range c.Tries {
		if t.From <= place && place < t.To {
			return t.Target, t.Depth + 1
		}
	}
	return -1, 0
}

// P10.2: the first Try that has a place counts, so what is told as bytes has them in their order, and all that they say.
func TestTriesKeepTheirOrder(t *testing.T) {
	c := api.Code{Tries: []api.Try{
		{From: 2, To: 4, Target: 9, Depth: 3},
		{From: 1, To: 6, Target: 8, Depth: 1},
		{From: 2, To: 4, Target: 7, Depth: 2},
		{From: 5, To: 5, Target: 6, Depth: 9},
		{From: 0, To: 7, Target: 10, Depth: 0},
	}}
	targets := []int{10, 8, 9, 9, 8, 8, 10, -1}
	heights := []int{1, 2, 4, 4, 2, 2, 1, 0}
	b, e := Encode(api.Image{Funs: []api.Code{c}})
	if e != api.OK {
		t.Fatal(e)
	}
	im, e, _ := Decode(b)
	if e != api.OK || !reflect.DeepEqual(im.Funs[0].Tries, c.Tries) {
		t.Fatal(im, e)
	}
	for place := range targets {
		if target, height := caught(im.Funs[0], place); target != targets[place] || height != heights[place] {
			t.Errorf("%d: %d with %d", place, target, height)
		}
	}
}
