package tag

import (
	"math/big"
	"testing"

	"jacquard/api"
)

type operation struct {
	name    string
	do      func(a, b api.Value) (api.Value, api.Errno)
	exact   func(z, x, y *big.Int) *big.Int
	divides bool
}

func operations() []operation {
	return []operation{
		{"Add", Add, (*big.Int).Add, false},
		{"Sub", Sub, (*big.Int).Sub, false},
		{"Mul", Mul, (*big.Int).Mul, false},
		{"Div", Div, (*big.Int).Quo, true},
		{"Mod", Mod, (*big.Int).Rem, true},
	}
}

// P1.4: the examples and edges, written out.
func TestReckonedNumbers(t *testing.T) {
	for _, c := range []struct {
		name string
		do   func(a, b api.Value) (api.Value, api.Errno)
		x, y int
		want int
	}{
		{"Add", Add, 2, 3, 5},
		{"Add", Add, api.MaxInt, 1, api.MinInt},
		{"Add", Add, api.MaxInt, api.MaxInt, -2},
		{"Add", Add, api.MinInt, -1, api.MaxInt},
		{"Add", Add, api.MinInt, api.MinInt, 0},
		{"Sub", Sub, 2, 3, -1},
		{"Sub", Sub, api.MinInt, 1, api.MaxInt},
		{"Sub", Sub, 0, api.MinInt, api.MinInt},
		{"Sub", Sub, api.MaxInt, api.MinInt, -1},
		{"Sub", Sub, api.MinInt, api.MaxInt, 1},
		{"Mul", Mul, -4, 3, -12},
		{"Mul", Mul, 1 << 40, 1 << 40, 0},
		{"Mul", Mul, 1 << 31, 1 << 30, api.MinInt},
		{"Mul", Mul, api.MaxInt, 2, -2},
		{"Mul", Mul, api.MaxInt, api.MaxInt, 1},
		{"Mul", Mul, api.MinInt, -1, api.MinInt},
		{"Mul", Mul, api.MinInt, api.MinInt, 0},
		{"Mul", Mul, api.MaxInt, api.MinInt, api.MinInt},
		{"Div", Div, 7, 2, 3},
		{"Div", Div, -7, 2, -3},
		{"Div", Div, 7, -2, -3},
		{"Div", Div, -7, -2, 3},
		{"Div", Div, 1, 2, 0},
		{"Div", Div, -1, 2, 0},
		{"Div", Div, 0, -5, 0},
		{"Div", Div, api.MinInt, -1, api.MinInt},
		{"Div", Div, api.MinInt, 1, api.MinInt},
		{"Div", Div, api.MinInt, api.MaxInt, -1},
		{"Div", Div, api.MaxInt, api.MinInt, 0},
		{"Mod", Mod, 7, 2, 1},
		{"Mod", Mod, -7, 2, -1},
		{"Mod", Mod, 7, -2, 1},
		{"Mod", Mod, -7, -2, -1},
		{"Mod", Mod, -6, 2, 0},
		{"Mod", Mod, 0, 5, 0},
		{"Mod", Mod, api.MinInt, -1, 0},
		{"Mod", Mod, api.MinInt, api.MaxInt, -1},
		{"Mod", Mod, api.MaxInt, api.MinInt, api.MaxInt},
	} {
		if v, e := c.do(Int(c.x), Int(c.y)); v != Int(c.want) || e != api.OK {
			t.Errorf("%s(%d, %d) = %#x, %d, not %d", c.name, c.x, c.y, v, e, c.want)
		}
	}
}

// P1.4: every pair of the edges, held against numbers without bounds.
func TestOperationsAgainstBigNumbers(t *testing.T) {
	for _, op := range operations() {
		for _, x := range edgeInts() {
			for _, y := range edgeInts() {
				v, e := op.do(Int(x), Int(y))
				if op.divides && y == 0 {
					if v != 0 || e != api.ErrZero {
						t.Errorf("%s(%d, 0) = %#x, %d", op.name, x, v, e)
					}
					continue
				}
				want := wrap(op.exact(new(big.Int), big.NewInt(int64(x)), big.NewInt(int64(y))))
				if v != Int(want) || e != api.OK {
					t.Errorf("%s(%d, %d) = %#x, %d, not %d", op.name, x, y, v, e, want)
				}
			}
		}
	}
}

// P1.4
func TestNeg(t *testing.T) {
	for _, x := range edgeInts() {
		want := wrap(new(big.Int).Neg(big.NewInt(int64(x))))
		if v, e := Neg(Int(x)); v != Int(want) || e != api.OK {
			t.Errorf("Neg(%d) = %#x, %d, not %d", x, v, e, want)
		}
	}
	if v, e := Neg(Int(api.MinInt)); v != Int(api.MinInt) || e != api.OK {
		t.Error(v, e)
	}
	for _, w := range noNumbers() {
		if v, e := Neg(w); v != 0 || e != api.ErrKind {
			t.Errorf("Neg(%#x) = %#x, %d", w, v, e)
		}
	}
}

// P1.4: ErrKind stands ahead of ErrZero, and the value beside it is the word 0.
func TestOperationsOnNoNumbers(t *testing.T) {
	for _, op := range operations() {
		for _, w := range noNumbers() {
			for _, n := range []api.Value{Int(0), Int(3), Int(-3), Int(api.MinInt)} {
				if v, e := op.do(w, n); v != 0 || e != api.ErrKind {
					t.Errorf("%s(%#x, %#x) = %#x, %d", op.name, w, n, v, e)
				}
				if v, e := op.do(n, w); v != 0 || e != api.ErrKind {
					t.Errorf("%s(%#x, %#x) = %#x, %d", op.name, n, w, v, e)
				}
			}
			if v, e := op.do(w, w); v != 0 || e != api.ErrKind {
				t.Errorf("%s(%#x, %#x) = %#x, %d", op.name, w, w, v, e)
			}
		}
	}
}

// P1.4
func TestLess(t *testing.T) {
	for _, x := range edgeInts() {
		for _, y := range edgeInts() {
			if less, e := Less(Int(x), Int(y)); less != (x < y) || e != api.OK {
				t.Errorf("Less(%d, %d) = %v, %d", x, y, less, e)
			}
		}
	}
	for _, w := range noNumbers() {
		for _, c := range [][2]api.Value{{w, Int(1)}, {Int(api.MinInt), w}, {w, w}} {
			if less, e := Less(c[0], c[1]); less || e != api.ErrKind {
				t.Errorf("Less(%#x, %#x) = %v, %d", c[0], c[1], less, e)
			}
		}
	}
}
