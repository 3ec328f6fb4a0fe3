package prim

import (
	"math"
	"testing"

	"jacquard/api"
	"jacquard/heap"
	"jacquard/show"
	"jacquard/tag"
)

// bench is a heap with one object of each kind, and words of every sort.
type bench struct {
	t    *testing.T
	h    *heap.Heap
	most int
}

func newBench(t *testing.T, most int) *bench {
	t.Helper()
	h, e := heap.New(most)
	if e != api.OK {
		t.Fatal(e)
	}
	return &bench{t: t, h: h, most: most}
}

func (b *bench) made(v api.Value, e api.Errno) api.Value {
	b.t.Helper()
	if e != api.OK {
		b.t.Fatalf("not made: %d", e)
	}
	return v
}

func (b *bench) str(s string) api.Value { b.t.Helper(); return b.made(b.h.Str([]byte(s))) }

func (b *bench) arr(l ...api.Value) api.Value { b.t.Helper(); return b.made(b.h.Arr(l)) }

func (b *bench) cx(re, im float64) api.Value {
	b.t.Helper()
	return b.made(b.h.Cplx(math.Float64bits(re), math.Float64bits(im)))
}

func (b *bench) rec(keys ...string) api.Value {
	b.t.Helper()
	l := make([]api.Value, len(keys))
	for i := range l {
		l[i] = tag.Int(i)
	}
	return b.made(b.h.Rec(keys, l))
}

func (b *bench) look(v api.Value) string {
	b.t.Helper()
	text, e := show.Text(b.h, v)
	if e != api.OK {
		b.t.Fatal(e)
	}
	return string(text)
}

// fill makes objects till the heap is full.
func (b *bench) fill() {
	for b.h.Count() < b.most {
		b.str("")
	}
}

// all tells what every object looks like, so that a change is seen.
func (b *bench) all() string {
	s := ""
	for i := range b.h.Count() {
		v, _ := tag.Ref(i)
		s += b.look(v) + "\n"
	}
	return s
}

// oneOfEach is a value of each kind, by the kind's name, and words that no kind has, by other names.
func (b *bench) oneOfEach() map[string]api.Value {
	b.t.Helper()
	item := func(kind int) api.Value { return b.made(b.h.Item(kind, 3)) }
	return map[string]api.Value{
		"int": tag.Int(7), "nil": api.Nil, "bool": api.True, "prim": b.made(tag.Prim(api.PrimLen)),
		"string": b.str("s"), "array": b.arr(tag.Int(1)), "record": b.rec("k"),
		"cell": b.made(b.h.Cell(tag.Int(1))), "function": b.made(b.h.Fun(1, nil)), "complex": b.cx(1, 2),
		"monitor": item(api.ObjMon), "box": item(api.ObjBox), "thread": item(api.ObjThr),
		"no value": 13, "no reference": b.made(tag.Ref(api.MaxRef)), "beyond references": math.MaxUint64 - 1,
	}
}

// P9.1
func TestOp(t *testing.T) {
	list := []string{"+", "-", "*", "/", "%", "==", "!=", "<", "<=", ">", ">="}
	for want, sign := range list {
		if op, is := Op(sign); op != want || !is {
			t.Errorf("Op(%q) = %d, %v", sign, op, is)
		}
	}
	for _, sign := range []string{"", " ", "+ ", "=", "!", "=>", "&&", "++", "===", "<>", "a", "+\x00", "<<", "++-"} {
		if op, is := Op(sign); op != 0 || is {
			t.Errorf("Op(%q) = %d, %v", sign, op, is)
		}
	}
	for _, c := range []struct{ op, want int }{
		{api.BinAdd, 0}, {api.BinSub, 1}, {api.BinMul, 2}, {api.BinDiv, 3}, {api.BinMod, 4}, {api.BinEq, 5},
		{api.BinNe, 6}, {api.BinLt, 7}, {api.BinLe, 8}, {api.BinGt, 9}, {api.BinGe, 10},
	} {
		if c.op != c.want {
			t.Error(c)
		}
	}
}

func faultTexts() map[int]string {
	return map[int]string{
		1: "type", 2: "zero", 3: "range", 4: "field", 5: "long", 6: "call", 7: "args", 8: "state",
		100: "heap", 101: "depth", 102: "threads",
	}
}

// edgeInts are numbers about the places where something is found, and far from there.
func edgeInts() []int {
	l := []int{math.MinInt, math.MinInt + 1, -101, -100, math.MaxInt - 1, math.MaxInt, 1 << 32, 1<<32 + 1, 1<<40 + 100}
	for n := -40; n <= 260; n++ {
		l = append(l, n)
	}
	return l
}

// P9.1
func TestFaultText(t *testing.T) {
	for _, f := range edgeInts() {
		if text := FaultText(f); text != faultTexts()[f] {
			t.Errorf("FaultText(%d) = %q", f, text)
		}
	}
	for text, f := range map[string]int{
		"": api.FaultNone, "type": api.FaultType, "zero": api.FaultZero, "range": api.FaultRange, "field": api.FaultField,
		"long": api.FaultLong, "call": api.FaultCall, "args": api.FaultArgs, "state": api.FaultState,
		"heap": api.FaultHeap, "depth": api.FaultDepth, "threads": api.FaultThreads,
	} {
		if FaultText(f) != text {
			t.Errorf("FaultText(%d) = %q", f, FaultText(f))
		}
	}
}

// P9.1: in the order of the primitives' numbers.
func TestArity(t *testing.T) {
	list := []int{1, 1, 2, 1, 1, 2, 2, 3, 2, 1, 2, 1, 1, 1, 0, 1, 0, 1, 1, 1, 2, 1, 0, 1, 1, 1, 2, 1, 1, 0}
	if len(list) != api.Prims {
		t.Fatal(len(list))
	}
	for _, p := range edgeInts() {
		want := -1
		if p >= 0 && p < len(list) {
			want = list[p]
		}
		if n := Arity(p); n != want {
			t.Errorf("Arity(%d) = %d, not %d", p, n, want)
		}
	}
}

// P9.3
func TestNot(t *testing.T) {
	for _, v := range []api.Value{api.Nil, api.False} {
		if Not(v) != api.True {
			t.Errorf("Not(%#x) = %#x", v, Not(v))
		}
	}
	for _, v := range []api.Value{api.True, tag.Int(0), tag.Int(-1), 2, 3, 13, math.MaxUint64} {
		if Not(v) != api.False {
			t.Errorf("Not(%#x) = %#x", v, Not(v))
		}
	}
}

// P9.6
func TestThrown(t *testing.T) {
	b := newBench(t, 20)
	texts := faultTexts()
	for _, f := range edgeInts() {
		before := b.h.Count()
		v, fault := Thrown(b.h, f)
		if texts[f] == "" || f >= 100 {
			if v != 0 || fault != f || b.h.Count() != before {
				t.Errorf("Thrown(%d) = %#x, %d", f, v, fault)
			}
			continue
		}
		if fault != api.FaultNone || b.look(v) != `"`+texts[f]+`"` || b.h.Count() != before+1 {
			t.Errorf("Thrown(%d) = %s, %d", f, b.look(v), fault)
		}
		if again, _ := Thrown(b.h, f); again == v {
			t.Errorf("Thrown(%d) is no new string", f)
		}
	}
}

// P9.6: what ends a thread needs no room.
func TestThrownWithoutRoom(t *testing.T) {
	b := newBench(t, 1)
	b.fill()
	for f := range 110 {
		want := f
		if f > 0 && f <= api.FaultState {
			want = api.FaultHeap
		}
		if v, fault := Thrown(b.h, f); v != 0 || fault != want {
			t.Errorf("Thrown(%d) = %#x, %d", f, v, fault)
		}
	}
}

// P9.2 to P9.6: of a nil heap there is FaultHeap, whatever else is wrong.
func TestNilHeap(t *testing.T) {
	words := []api.Value{tag.Int(1), tag.Int(0), api.Nil, 2, 13}
	for _, a := range words {
		for _, x := range words {
			for _, op := range []int{-1, api.BinAdd, api.BinDiv, api.BinEq, api.BinNe, api.BinLt, 11} {
				if v, f := Bin(nil, op, a, x); v != 0 || f != api.FaultHeap {
					t.Errorf("Bin(%d, %#x, %#x) = %#x, %d", op, a, x, v, f)
				}
			}
			if v, f := Index(nil, a, x); v != 0 || f != api.FaultHeap {
				t.Errorf("Index: %#x, %d", v, f)
			}
			if f := SetIndex(nil, a, x, a); f != api.FaultHeap {
				t.Errorf("SetIndex: %d", f)
			}
			for p := -1; p <= api.Prims; p++ {
				if v, f := Pure(nil, p, []api.Value{a, x}); v != 0 || f != api.FaultHeap {
					t.Errorf("Pure(%d) = %#x, %d", p, v, f)
				}
			}
		}
		if v, f := Neg(nil, a); v != 0 || f != api.FaultHeap {
			t.Errorf("Neg: %#x, %d", v, f)
		}
		if v, f := Field(nil, a, "k"); v != 0 || f != api.FaultHeap {
			t.Errorf("Field: %#x, %d", v, f)
		}
		if f := SetField(nil, a, "k", a); f != api.FaultHeap {
			t.Errorf("SetField: %d", f)
		}
	}
	for _, f := range []int{1, 8, 100} {
		if v, fault := Thrown(nil, f); v != 0 || fault != api.FaultHeap {
			t.Errorf("Thrown(%d) = %#x, %d", f, v, fault)
		}
	}
}
