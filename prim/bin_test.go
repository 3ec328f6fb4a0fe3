package prim

import (
	"math"
	"math/big"
	"math/rand"
	"strings"
	"testing"

	"jacquard/api"
	"jacquard/cplx"
	"jacquard/heap"
	"jacquard/show"
	"jacquard/tag"
)

// P9.2: ordinary inputs of every kind, written out.
func TestBin(t *testing.T) {
	b := newBench(t, 400)
	n := tag.Int
	z := b.cx(1, 2)
	list := b.arr()
	for _, c := range []struct {
		op   int
		a, b api.Value
		want string
		f    int
	}{
		{api.BinAdd, n(2), n(3), "5", 0},
		{api.BinAdd, n(api.MaxInt), n(1), "-2305843009213693952", 0},
		{api.BinSub, n(2), n(3), "-1", 0},
		{api.BinMul, n(-4), n(3), "-12", 0},
		{api.BinDiv, n(-7), n(2), "-3", 0},
		{api.BinDiv, n(7), n(0), "", api.FaultZero},
		{api.BinMod, n(-7), n(2), "-1", 0},
		{api.BinMod, n(7), n(0), "", api.FaultZero},
		{api.BinEq, n(2), n(2), "true", 0}, {api.BinEq, n(2), n(3), "false", 0},
		{api.BinNe, n(2), n(2), "false", 0}, {api.BinNe, n(2), n(3), "true", 0},
		{api.BinLt, n(-1), n(0), "true", 0}, {api.BinLt, n(0), n(0), "false", 0}, {api.BinLt, n(1), n(0), "false", 0},
		{api.BinLe, n(-1), n(0), "true", 0}, {api.BinLe, n(0), n(0), "true", 0}, {api.BinLe, n(1), n(0), "false", 0},
		{api.BinGt, n(-1), n(0), "false", 0}, {api.BinGt, n(0), n(0), "false", 0}, {api.BinGt, n(1), n(0), "true", 0},
		{api.BinGe, n(-1), n(0), "false", 0}, {api.BinGe, n(0), n(0), "true", 0}, {api.BinGe, n(1), n(0), "true", 0},
		{api.BinLt, n(api.MinInt), n(api.MaxInt), "true", 0},

		{api.BinAdd, z, z, "(4000000000000000,4010000000000000)", 0},
		{api.BinAdd, n(1), z, "(4000000000000000,4000000000000000)", 0},
		{api.BinSub, z, n(1), "(0000000000000000,4000000000000000)", 0},
		{api.BinSub, n(1), z, "(0000000000000000,c000000000000000)", 0},
		{api.BinMul, z, n(2), "(4000000000000000,4010000000000000)", 0},
		{api.BinDiv, b.cx(4, 2), n(2), "(4000000000000000,3ff0000000000000)", 0},
		{api.BinDiv, n(5), z, "(3ff0000000000000,c000000000000000)", 0},
		{api.BinDiv, z, n(0), "", api.FaultZero},
		{api.BinDiv, n(1), b.cx(0, math.Copysign(0, -1)), "", api.FaultZero},
		{api.BinMod, z, n(1), "", api.FaultType}, {api.BinMod, n(1), z, "", api.FaultType},
		{api.BinMod, z, n(0), "", api.FaultType},
		{api.BinLt, z, z, "", api.FaultType}, {api.BinGe, n(1), z, "", api.FaultType},
		{api.BinAdd, n(api.MaxInt), b.cx(0, 0), "(43c0000000000000,0000000000000000)", 0},
		{api.BinAdd, b.cx(math.NaN(), 0), n(1), "(7ff8000000000001,0000000000000000)", 0},
		{api.BinEq, z, b.cx(1, 2), "true", 0}, {api.BinNe, z, b.cx(1, 2), "false", 0},
		{api.BinEq, b.cx(1, 0), n(1), "false", 0},
		{api.BinEq, b.cx(0, 0), b.cx(math.Copysign(0, -1), 0), "false", 0},

		{api.BinAdd, b.str("a"), b.str("b"), `"ab"`, 0}, {api.BinAdd, b.str(""), b.str(""), `""`, 0},
		{api.BinAdd, b.str("x"), n(1), "", api.FaultType}, {api.BinAdd, n(1), b.str("x"), "", api.FaultType},
		{api.BinAdd, b.str("x"), z, "", api.FaultType}, {api.BinAdd, z, b.str("x"), "", api.FaultType},
		{api.BinSub, b.str("x"), b.str("x"), "", api.FaultType}, {api.BinMul, b.str("x"), b.str("x"), "", api.FaultType},
		{api.BinDiv, b.str("x"), b.str("x"), "", api.FaultType}, {api.BinMod, b.str("x"), b.str("x"), "", api.FaultType},
		{api.BinEq, b.str("x"), b.str("x"), "true", 0}, {api.BinNe, b.str("x"), b.str("y"), "true", 0},
		{api.BinLt, b.str("a"), b.str("ab"), "true", 0}, {api.BinLt, b.str("ab"), b.str("b"), "true", 0},
		{api.BinLt, b.str("\x7f"), b.str("\x80"), "true", 0}, {api.BinLt, b.str(""), b.str("\x00"), "true", 0},
		{api.BinGt, b.str("b"), b.str("ab"), "true", 0}, {api.BinGe, b.str("a"), b.str("a"), "true", 0},
		{api.BinLe, b.str("a"), b.str("a"), "true", 0}, {api.BinLe, b.str("b"), b.str("a"), "false", 0},
		{api.BinLt, b.str("1"), n(2), "", api.FaultType},

		{api.BinEq, list, list, "true", 0}, {api.BinEq, list, b.arr(), "false", 0}, {api.BinNe, list, b.arr(), "true", 0},
		{api.BinEq, api.Nil, api.False, "false", 0}, {api.BinNe, api.Nil, n(0), "true", 0},
		{api.BinLt, api.Nil, api.Nil, "", api.FaultType}, {api.BinAdd, list, list, "", api.FaultType},
	} {
		v, f := Bin(b.h, c.op, c.a, c.b)
		if f != c.f || f != 0 && v != 0 || f == 0 && b.look(v) != c.want {
			t.Errorf("Bin(%d, %s, %s) = %s, %d, not %s, %d", c.op, b.look(c.a), b.look(c.b), b.look(v), f, c.want, c.f)
		}
	}
}

// P9.2: every operation, and numbers that are none, on every pair of kinds.
func TestBinOfKinds(t *testing.T) {
	b := newBench(t, 2000)
	each := b.oneOfEach()
	for x, v := range each {
		for y, w := range each {
			for op := -2; op <= 12; op++ {
				before, count := b.all(), b.h.Count()
				got, f := Bin(b.h, op, v, w)
				fits := fitsKinds(op, x, y)
				if fits != (f == 0) || !fits && (f != api.FaultType || got != 0) {
					t.Errorf("Bin(%d, %s, %s) = %#x, %d", op, x, y, got, f)
				}
				made := 0
				if f == 0 && op <= api.BinMod && x != "int" || f == 0 && op <= api.BinMod && y != "int" {
					made = 1
				}
				if b.h.Count() != count+made || !strings.HasPrefix(b.all(), before) {
					t.Errorf("Bin(%d, %s, %s) made %d objects", op, x, y, b.h.Count()-count)
				}
			}
		}
	}
	for _, op := range []int{math.MinInt, -1, 11, 1 << 32, 1<<32 + 5, math.MaxInt} {
		if v, f := Bin(b.h, op, tag.Int(1), tag.Int(1)); v != 0 || f != api.FaultType {
			t.Errorf("Bin(%d) = %#x, %d", op, v, f)
		}
	}
}

// fitsKinds: is there such an operation on the two kinds?
func fitsKinds(op int, x, y string) bool {
	numeric := func(k string) bool { return k == "int" || k == "complex" }
	switch {
	case op < 0 || op > 10:
		return false
	case op == api.BinEq || op == api.BinNe, x == "int" && y == "int":
		return true
	case x == "string" && y == "string":
		return op == api.BinAdd || op >= api.BinLt
	}
	return numeric(x) && numeric(y) && op <= api.BinDiv
}

// P9.2: == and != hold and do not hold just as show.Equal does.
func TestBinEqual(t *testing.T) {
	b := newBench(t, 60)
	var all []api.Value
	for range 2 {
		for _, v := range b.oneOfEach() {
			all = append(all, v)
		}
	}
	for _, v := range all {
		for _, w := range all {
			eq, f := Bin(b.h, api.BinEq, v, w)
			ne, g := Bin(b.h, api.BinNe, v, w)
			want := show.Equal(b.h, v, w)
			if f != 0 || g != 0 || eq != tag.Bool(want) || ne != tag.Bool(!want) {
				t.Errorf("%s and %s: %#x, %#x", b.look(v), b.look(w), eq, ne)
			}
		}
	}
}

// P9.2: the longest string, and one byte more; what is too long is told ahead of a full heap.
func TestBinLongStrings(t *testing.T) {
	b := newBench(t, 6)
	half := strings.Repeat("ab", api.MaxStr/4)
	x, y := b.str(half), b.str(half+"c")
	v, f := Bin(b.h, api.BinAdd, x, x)
	got, _ := b.h.Bytes(v)
	if f != 0 || string(got) != half+half {
		t.Errorf("%d bytes, %d", len(got), f)
	}
	for _, c := range [][2]api.Value{{x, y}, {y, x}, {v, y}, {v, v}} {
		before := b.h.Count()
		if v, f := Bin(b.h, api.BinAdd, c[0], c[1]); v != 0 || f != api.FaultLong || b.h.Count() != before {
			t.Errorf("%#x, %d", v, f)
		}
	}
	empty := b.str("")
	if w, f := Bin(b.h, api.BinAdd, v, empty); f != 0 || w == v || !show.Equal(b.h, v, w) {
		t.Errorf("%#x, %d", w, f)
	}
	b.fill()
	if v, f := Bin(b.h, api.BinAdd, x, y); v != 0 || f != api.FaultLong {
		t.Errorf("%#x, %d", v, f)
	}
}

// P9.2, P9.3: where the heap is full nothing new is made; what makes nothing goes on, and FaultZero and FaultType come first.
func TestReckonWithoutRoom(t *testing.T) {
	b := newBench(t, 3)
	z, s, nought := b.cx(1, 2), b.str("s"), b.cx(0, 0)
	for _, c := range []struct {
		op   int
		a, b api.Value
		f    int
	}{
		{api.BinAdd, z, z, api.FaultHeap}, {api.BinSub, z, tag.Int(1), api.FaultHeap},
		{api.BinMul, tag.Int(1), z, api.FaultHeap}, {api.BinDiv, z, z, api.FaultHeap},
		{api.BinDiv, z, nought, api.FaultZero}, {api.BinMod, z, z, api.FaultType},
		{api.BinAdd, s, s, api.FaultHeap}, {api.BinLt, s, s, 0}, {api.BinEq, z, z, 0}, {api.BinAdd, tag.Int(1), tag.Int(1), 0},
		{api.BinAdd, s, z, api.FaultType},
	} {
		v, f := Bin(b.h, c.op, c.a, c.b)
		if f != c.f || f != 0 && v != 0 {
			t.Errorf("%v: %#x, %d", c, v, f)
		}
	}
	if v, f := Neg(b.h, z); v != 0 || f != api.FaultHeap {
		t.Errorf("%#x, %d", v, f)
	}
	if v, f := Neg(b.h, tag.Int(1)); v != tag.Int(-1) || f != 0 {
		t.Errorf("%#x, %d", v, f)
	}
	if b.h.Count() != 3 {
		t.Error(b.h.Count())
	}
}

// P9.3
func TestNeg(t *testing.T) {
	b := newBench(t, 100)
	for n, want := range map[int]int{0: 0, 5: -5, -5: 5, api.MaxInt: -api.MaxInt, api.MinInt: api.MinInt} {
		if v, f := Neg(b.h, tag.Int(n)); v != tag.Int(want) || f != 0 {
			t.Errorf("Neg(%d) = %s, %d", n, b.look(v), f)
		}
	}
	minus := math.Copysign(0, -1)
	for _, c := range []struct {
		re, im float64
		want   string
	}{
		{1, 2, "(bff0000000000000,c000000000000000)"},
		{0, minus, "(0000000000000000,0000000000000000)"},
		{math.Inf(1), math.NaN(), "(fff0000000000000,7ff8000000000001)"},
	} {
		z := b.cx(c.re, c.im)
		v, f := Neg(b.h, z)
		if f != 0 || v == z || b.look(v) != c.want {
			t.Errorf("Neg(%v, %v) = %s, %d", c.re, c.im, b.look(v), f)
		}
	}
	for name, v := range b.oneOfEach() {
		w, f := Neg(b.h, v)
		if name == "int" || name == "complex" {
			if f != 0 {
				t.Error(name, f)
			}
		} else if w != 0 || f != api.FaultType {
			t.Errorf("Neg of %s: %#x, %d", name, w, f)
		}
	}
}

// number is a value held against others outside the heap: a whole one, two floats, or a text.
type number struct {
	kind   byte
	n      *big.Int
	re, im float64
	s      string
}

func drawn(r *rand.Rand) number {
	floats := []float64{0, math.Copysign(0, -1), 1, -1, 0.5, 3, -7, 1e300, 1e-300, math.Inf(1), math.Inf(-1), math.NaN(), float64(api.MaxInt)}
	ints := []int{0, 1, -1, 2, -7, 1 << 53, 1<<53 + 1, 1 << 31, api.MaxInt, api.MinInt, r.Intn(1000) - 500, r.Int() >> 2}
	texts := []string{"", "a", "b", "ab", "aa", "\x00", "\xff", "abc"}
	switch r.Intn(3) {
	case 0:
		return number{kind: 'n', n: big.NewInt(int64(ints[r.Intn(len(ints))]))}
	case 1:
		return number{kind: 'z', re: floats[r.Intn(len(floats))], im: floats[r.Intn(len(floats))]}
	}
	return number{kind: 's', s: texts[r.Intn(len(texts))]}
}

func (x number) put(b *bench) api.Value {
	switch x.kind {
	case 'n':
		return tag.Int(int(x.n.Int64()))
	case 'z':
		return b.cx(x.re, x.im)
	}
	return b.str(x.s)
}

func (x number) float() complex128 {
	if x.kind == 'n' {
		f, _ := new(big.Float).SetInt(x.n).Float64()
		return complex(f, 0)
	}
	return complex(x.re, x.im)
}

// sign is that of the difference of two texts or two whole numbers.
func sign(x, y number) int {
	if x.kind == 'n' {
		return x.n.Cmp(y.n)
	}
	return strings.Compare(x.s, y.s)
}

// wholeWant reckons without bounds, and takes the result into its range at the end.
func wholeWant(op int, x, y *big.Int) (string, int) {
	z := new(big.Int)
	switch op {
	case api.BinAdd:
		z.Add(x, y)
	case api.BinSub:
		z.Sub(x, y)
	case api.BinMul:
		z.Mul(x, y)
	default:
		if y.Sign() == 0 {
			return "", api.FaultZero
		}
		if op == api.BinDiv {
			z.Quo(x, y)
		} else {
			z.Rem(x, y)
		}
	}
	half := new(big.Int).Lsh(big.NewInt(1), 61)
	z.Add(z, half)
	z.Mod(z, new(big.Int).Lsh(half, 1))
	return z.Sub(z, half).String(), 0
}

// complexWant goes by chapter 2's sums of floats, written out.
func complexWant(b *bench, op int, x, y complex128) (string, int) {
	p, q, c, d := real(x), imag(x), real(y), imag(y)
	norm := float64(c*c) + float64(d*d)
	var re, im float64
	switch op {
	case api.BinAdd:
		re, im = p+c, q+d
	case api.BinSub:
		re, im = p-c, q-d
	case api.BinMul:
		re, im = float64(p*c)-float64(q*d), float64(p*d)+float64(q*c)
	case api.BinDiv:
		if norm == 0 {
			return "", api.FaultZero
		}
		re, im = (float64(p*c)+float64(q*d))/norm, (float64(q*c)-float64(p*d))/norm
	default:
		return "", api.FaultType
	}
	return b.look(b.made(b.h.Cplx(cplx.Bits(complex(re, im))))), 0
}

func compareWant(op, s int) string {
	if []bool{s < 0, s <= 0, s > 0, s >= 0}[op-api.BinLt] {
		return "true"
	}
	return "false"
}

func binWant(b *bench, op int, x, y number) (string, int) {
	if x.kind == 's' || y.kind == 's' {
		switch {
		case x.kind != y.kind || op > api.BinAdd && op < api.BinLt:
			return "", api.FaultType
		case op == api.BinAdd:
			return string(show.Quote([]byte(x.s + y.s))), 0
		}
		return compareWant(op, sign(x, y)), 0
	}
	if x.kind == 'n' && y.kind == 'n' {
		if op >= api.BinLt {
			return compareWant(op, sign(x, y)), 0
		}
		return wholeWant(op, x.n, y.n)
	}
	return complexWant(b, op, x.float(), y.float())
}

// P9.2: drawn numbers, complex numbers and strings, held against what is reckoned outside the heap.
func TestBinDrawn(t *testing.T) {
	r := rand.New(rand.NewSource(9))
	for range 200 {
		b := newBench(t, 1000)
		for range 100 {
			op := r.Intn(11)
			if op == api.BinEq || op == api.BinNe {
				continue
			}
			x, y := drawn(r), drawn(r)
			v, f := Bin(b.h, op, x.put(b), y.put(b))
			want, g := binWant(b, op, x, y)
			if f != g || f == 0 && b.look(v) != want || f != 0 && v != 0 {
				t.Fatalf("Bin(%d, %v, %v) = %s, %d, not %s, %d", op, x, y, b.look(v), f, want, g)
			}
		}
	}
}

// P9.2: strings stay as they are when others are made of them.
func TestBinKeepsStrings(t *testing.T) {
	h, _ := heap.New(10)
	x, _ := h.Str([]byte("ab"))
	y, _ := h.Str([]byte("cd"))
	sum, _ := Bin(h, api.BinAdd, x, y)
	other, _ := Bin(h, api.BinAdd, x, x)
	for v, want := range map[api.Value]string{x: "ab", y: "cd", sum: "abcd", other: "abab"} {
		if got, _ := h.Bytes(v); string(got) != want {
			t.Errorf("%q, not %q", got, want)
		}
	}
}
