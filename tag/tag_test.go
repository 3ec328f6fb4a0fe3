package tag

import (
	"math"
	"math/big"
	"testing"

	"jacquard/api"
)

// edgeInts are numbers at and about the places where something changes.
func edgeInts() []int {
	l := []int{0, 1, -1, 2, -2, 3, -3, 5, 7, -7, 10, 1000003, -1000003}
	for _, shift := range []uint{30, 31, 32, 33, 40, 59, 60} {
		l = append(l, 1<<shift-1, 1<<shift, 1<<shift+1, -1<<shift-1, -1<<shift, -1<<shift+1)
	}
	return append(l, api.MaxInt-1, api.MaxInt, api.MinInt, api.MinInt+1)
}

// noNumbers are words of every other kind, and words that are no values.
func noNumbers() []api.Value {
	return []api.Value{
		api.Nil, api.False, api.True,
		2, 3, 6, 7, api.MaxRef<<2 | 2, api.MaxRef<<2 | 3,
		13, 17, 1<<63 | 1, math.MaxUint64 - 2,
		(api.MaxRef+1)<<2 | 2, (api.MaxRef+1)<<2 | 3, 1<<63 | 2, math.MaxUint64 - 1, math.MaxUint64,
	}
}

// wrap is n modulo 2^62, from MinInt to MaxInt, reckoned by other means than the package's.
func wrap(n *big.Int) int {
	turn := new(big.Int).Lsh(big.NewInt(1), 62)
	r := new(big.Int).Mod(n, turn)
	if r.Cmp(big.NewInt(api.MaxInt)) > 0 {
		r.Sub(r, turn)
	}
	return int(r.Int64())
}

func mustNum(t *testing.T, v api.Value) int {
	t.Helper()
	n, ok := Num(v)
	if !ok {
		t.Fatalf("%#x is no number", v)
	}
	return n
}

// P1.1, P1.2
func TestWords(t *testing.T) {
	for _, c := range []struct {
		v     api.Value
		kind  int
		num   int
		index int
	}{
		{0, api.KindInt, 0, 0},
		{4, api.KindInt, 1, 0},
		{20, api.KindInt, 5, 0},
		{math.MaxUint64 - 3, api.KindInt, -1, 0},
		{1<<63 - 4, api.KindInt, api.MaxInt, 0},
		{1 << 63, api.KindInt, api.MinInt, 0},
		{1, api.KindAtom, 0, 0},
		{5, api.KindAtom, 0, 0},
		{9, api.KindAtom, 0, 0},
		{13, api.KindNone, 0, 0},
		{17, api.KindNone, 0, 0},
		{1<<33 | 1, api.KindNone, 0, 0},
		{1<<63 | 1, api.KindNone, 0, 0},
		{1<<63 | 5, api.KindNone, 0, 0},
		{math.MaxUint64 - 2, api.KindNone, 0, 0},
		{2, api.KindRef, 0, 0},
		{6, api.KindRef, 0, 1},
		{1<<33 - 2, api.KindRef, 0, api.MaxRef},
		{1<<33 + 2, api.KindNone, 0, 0},
		{1<<63 | 2, api.KindNone, 0, 0},
		{math.MaxUint64 - 1, api.KindNone, 0, 0},
		{3, api.KindPrim, 0, 0},
		{7, api.KindPrim, 0, 1},
		{1<<33 - 1, api.KindPrim, 0, api.MaxRef},
		{1<<33 + 3, api.KindNone, 0, 0},
		{1<<63 | 3, api.KindNone, 0, 0},
		{math.MaxUint64, api.KindNone, 0, 0},
	} {
		if k := Kind(c.v); k != c.kind {
			t.Errorf("Kind(%#x) = %d, not %d", c.v, k, c.kind)
		}
		if n, ok := Num(c.v); n != c.num || ok != (c.kind == api.KindInt) {
			t.Errorf("Num(%#x) = %d, %v", c.v, n, ok)
		}
		hasIndex := c.kind == api.KindRef || c.kind == api.KindPrim
		if i, ok := Index(c.v); i != c.index || ok != hasIndex {
			t.Errorf("Index(%#x) = %d, %v", c.v, i, ok)
		}
	}
}

// P1.1: of the words with the tag of atoms just three are values.
func TestAtomsAreThree(t *testing.T) {
	atoms := 0
	for v := api.Value(1); v < 1<<16; v += 4 {
		if Kind(v) == api.KindAtom {
			atoms++
		} else if Kind(v) != api.KindNone {
			t.Fatalf("Kind(%#x) = %d", v, Kind(v))
		}
	}
	if atoms != 3 {
		t.Error(atoms, "atoms")
	}
}

// P1.2
func TestTruth(t *testing.T) {
	for _, v := range []api.Value{api.Nil, api.False} {
		if Truth(v) {
			t.Errorf("Truth(%#x)", v)
		}
	}
	for _, v := range []api.Value{0, 4, 2, 3, 6, 7, api.True, 13, 1<<63 | 1, 1<<63 | 5, 1<<33 + 2, math.MaxUint64} {
		if !Truth(v) {
			t.Errorf("not Truth(%#x)", v)
		}
	}
}

// P1.3
func TestInt(t *testing.T) {
	for _, c := range []struct {
		n int
		v api.Value
	}{
		{0, 0}, {5, 20}, {1, 4}, {-1, math.MaxUint64 - 3}, {-2, math.MaxUint64 - 7},
		{api.MaxInt, 1<<63 - 4}, {api.MinInt, 1 << 63},
		{1 << 61, 1 << 63}, {-1<<61 - 1, 1<<63 - 4},
		{1 << 62, 0}, {-1 << 62, 0}, {1<<62 + 5, 20}, {-1<<62 - 1, math.MaxUint64 - 3},
		{math.MaxInt, math.MaxUint64 - 3}, {math.MinInt, 0}, {math.MinInt + 5, 20},
	} {
		if v := Int(c.n); v != c.v {
			t.Errorf("Int(%d) = %#x, not %#x", c.n, v, c.v)
		}
		if n := mustNum(t, Int(c.n)); n != wrap(big.NewInt(int64(c.n))) {
			t.Errorf("Int(%d) is the number %d", c.n, n)
		}
	}
}

// P1.3
func TestRefAndPrim(t *testing.T) {
	for _, c := range []struct {
		name string
		make func(int) (api.Value, api.Errno)
		kind int
	}{{"Ref", Ref, api.KindRef}, {"Prim", Prim, api.KindPrim}} {
		for _, i := range []int{0, 1, 2, 255, 65536, api.MaxRef - 1, api.MaxRef} {
			v, e := c.make(i)
			if e != api.OK || v != api.Value(i)*4+api.Value(c.kind) || Kind(v) != c.kind {
				t.Errorf("%s(%d) = %#x, %d", c.name, i, v, e)
			}
			if j, ok := Index(v); j != i || !ok {
				t.Errorf("%s(%d) has the index %d, %v", c.name, i, j, ok)
			}
		}
		for _, i := range []int{-1, -2, api.MaxRef + 1, 1 << 32, 1 << 62, math.MaxInt, math.MinInt} {
			if v, e := c.make(i); v != 0 || e != api.ErrArg {
				t.Errorf("%s(%d) = %#x, %d", c.name, i, v, e)
			}
		}
	}
}

// P1.3
func TestBool(t *testing.T) {
	if Bool(true) != api.True || Bool(false) != api.False {
		t.Error(Bool(true), Bool(false))
	}
	if !Truth(Bool(true)) || Truth(Bool(false)) {
		t.Error("Truth of Bool")
	}
}
