package cplx

import (
	"math"
	"math/big"
	"testing"

	"jacquard/api"
)

const nan = 0x7ff8000000000001

var (
	inf  = math.Inf(1)
	zero = math.Copysign(0, -1) // the negative one
)

// noNumbers are bits of parts that are no number: both signs, quiet and not, the least and the greatest ones.
func noNumbers() []uint64 {
	return []uint64{
		nan, 0x7ff0000000000001, 0x7ff0000000000005, 0x7ff7ffffffffffff, 0x7ff8000000000000, 0x7fffffffffffffff,
		0xfff0000000000001, 0xfff7ffffffffffff, 0xfff8000000000000, 0xfff8000000000001, math.MaxUint64,
	}
}

// edgeFloats are parts at and about the places where something changes.
func edgeFloats() []float64 {
	l := []float64{0, 1, 3, 0.1, 1.0 / 3, 1 + 1.0/(1<<30), 1e16, 1 << 53, 1<<53 + 2, 1 << 61, 1e154, 1e155, 1e200, 1e-154, 1e-162, 1e-200,
		math.SmallestNonzeroFloat64, 0x1p-1022, math.Nextafter(0x1p-1022, 0), math.MaxFloat64}
	for _, f := range l {
		l = append(l, -f)
	}
	l[20] = zero
	return l
}

// edgeNumbers are all pairs of some of the edges.
func edgeNumbers() []complex128 {
	var l []complex128
	parts := append(edgeFloats(), inf, -inf, math.NaN())
	for i, re := range parts {
		l = append(l, complex(re, parts[(7*i+3)%len(parts)]), complex(re, re), complex(re, 0), complex(0, re), complex(zero, re))
	}
	return l
}

// same is told by Float64bits here, so that it does not hang on the package's Bits.
func same(a, b float64) bool {
	return a != a && b != b || math.Float64bits(a) == math.Float64bits(b)
}

func wantNumber(t *testing.T, what string, got, want complex128) {
	t.Helper()
	if !same(real(got), real(want)) || !same(imag(got), imag(want)) {
		t.Errorf("%s = %v, not %v", what, got, want)
	}
}

// P2.1
func TestMake(t *testing.T) {
	for _, c := range []struct {
		n    int
		bits uint64
	}{
		{0, 0},
		{1, 0x3ff0000000000000},
		{-1, 0xbff0000000000000},
		{3, 0x4008000000000000},
		{1<<53 - 1, 0x433fffffffffffff},
		{1 << 53, 0x4340000000000000},
		{1<<53 + 1, 0x4340000000000000}, // a tie, to the even one below
		{1<<53 + 2, 0x4340000000000001},
		{1<<53 + 3, 0x4340000000000002}, // a tie, to the even one above
		{-1<<53 - 1, 0xc340000000000000},
		{-1<<53 - 3, 0xc340000000000002},
		{1<<54 + 1, 0x4350000000000000},
		{1<<54 + 3, 0x4350000000000001},
		{api.MaxInt, 0x43c0000000000000},
		{api.MinInt, 0xc3c0000000000000},
		{math.MaxInt, 0x43e0000000000000},
		{math.MinInt, 0xc3e0000000000000},
		{math.MaxInt - 511, 0x43e0000000000000}, // a tie, to the even one above
		{math.MaxInt - 512, 0x43dfffffffffffff},
	} {
		re, im := Bits(Make(c.n, 7))
		if re != c.bits || im != 0x401c000000000000 {
			t.Errorf("Make(%d, 7): %x %x", c.n, re, im)
		}
		re, im = Bits(Make(7, c.n))
		if re != 0x401c000000000000 || im != c.bits {
			t.Errorf("Make(7, %d): %x %x", c.n, re, im)
		}
	}
}

// P2.1
func TestOfAndBits(t *testing.T) {
	numbers := []uint64{
		0, 1 << 63, 1, 1<<63 | 1, 0x3ff0000000000000, 0xbff0000000000000, 0x000fffffffffffff, 0x0010000000000000,
		0x7fefffffffffffff, 0x7ff0000000000000, 0xfff0000000000000,
	}
	for _, bits := range numbers {
		if re, im := Bits(Of(bits, 1)); re != bits || im != 1 {
			t.Errorf("Of(%x, 1): %x %x", bits, re, im)
		}
		if re, im := Bits(Of(1, bits)); re != 1 || im != bits {
			t.Errorf("Of(1, %x): %x %x", bits, re, im)
		}
		z := Of(bits, bits)
		if math.Float64bits(real(z)) != bits || math.Float64bits(imag(z)) != bits {
			t.Errorf("Of(%x, %x) = %v", bits, bits, z)
		}
	}
	for _, bits := range noNumbers() {
		z := Of(bits, bits)
		if math.Float64bits(real(z)) != nan || math.Float64bits(imag(z)) != nan {
			t.Errorf("Of(%x, %x) has other bits", bits, bits)
		}
		if re, im := Bits(Of(bits, 2)); re != nan || im != 2 {
			t.Errorf("Of(%x, 2): %x %x", bits, re, im)
		}
		if re, im := Bits(Of(2, bits)); re != 2 || im != nan {
			t.Errorf("Of(2, %x): %x %x", bits, re, im)
		}
		made := math.Float64frombits(bits)
		if re, im := Bits(complex(made, 1)); re != nan || im != 0x3ff0000000000000 {
			t.Errorf("Bits of %x and 1: %x %x", bits, re, im)
		}
		if re, im := Bits(complex(1, made)); re != 0x3ff0000000000000 || im != nan {
			t.Errorf("Bits of 1 and %x: %x %x", bits, re, im)
		}
	}
}

// P2.1, P2.5
func TestSame(t *testing.T) {
	for _, c := range []struct {
		a, b complex128
		same bool
	}{
		{1 + 2i, 1 + 2i, true},
		{1 + 2i, 1 + 3i, false},
		{1 + 2i, 3 + 2i, false},
		{1 + 2i, 2 + 1i, false},
		{0, 0, true},
		{complex(zero, 0), 0, false},
		{complex(0, zero), 0, false},
		{complex(zero, zero), complex(zero, zero), true},
		{complex(zero, 0), complex(0, zero), false},
		{complex(inf, 0), complex(inf, 0), true},
		{complex(inf, 0), complex(-inf, 0), false},
		{complex(inf, 0), complex(math.NaN(), 0), false},
		{complex(1, math.SmallestNonzeroFloat64), 1, false},
	} {
		if Same(c.a, c.b) != c.same || Same(c.b, c.a) != c.same {
			t.Errorf("Same(%v, %v) is not %v", c.a, c.b, c.same)
		}
	}
	for _, a := range noNumbers() {
		for _, b := range noNumbers() {
			x, y := math.Float64frombits(a), math.Float64frombits(b)
			if !Same(complex(x, 1), complex(y, 1)) || !Same(complex(1, x), complex(1, y)) || !Same(complex(x, y), complex(y, x)) {
				t.Errorf("%x and %x are not the same", a, b)
			}
			if Same(complex(x, 1), complex(1, y)) || Same(complex(x, 1), complex(y, 2)) {
				t.Errorf("%x and %x: the other part counts", a, b)
			}
		}
	}
}

// exact is f without any rounding.
func exact(f float64) *big.Float { return new(big.Float).SetPrec(4400).SetFloat64(f) }

// rounded is the nearest float, ties to even.
func rounded(x *big.Float) float64 {
	f, _ := x.Float64()
	return f
}

// finite says whether numbers without bounds can follow: they have nothing for the quotient of infinities and the like.
func finite(l ...float64) bool {
	for _, f := range l {
		if math.IsInf(f, 0) || math.IsNaN(f) {
			return false
		}
	}
	return true
}

func sum(a, b float64) float64 {
	if !finite(a, b) {
		return a + b
	}
	return rounded(new(big.Float).SetPrec(4400).Add(exact(a), exact(b)))
}

func less(a, b float64) float64 { return sum(a, -b) }

func times(a, b float64) float64 {
	if !finite(a, b) {
		return a * b
	}
	return rounded(new(big.Float).SetPrec(4400).Mul(exact(a), exact(b)))
}

func over(a, b float64) float64 {
	if !finite(a, b) || b == 0 {
		return a / b
	}
	return rounded(new(big.Float).SetPrec(4400).Quo(exact(a), exact(b)))
}

// P2.2
func TestEachRoundedByItself(t *testing.T) {
	for _, x := range edgeNumbers() {
		a, b := real(x), imag(x)
		wantNumber(t, "Conj", Conj(x), complex(a, -b))
		norm := sum(times(a, a), times(b, b))
		if n := Norm(x); !same(n, norm) {
			t.Errorf("Norm(%v) = %v, not %v", x, n, norm)
		}
		for _, y := range edgeNumbers() {
			c, d := real(y), imag(y)
			wantNumber(t, "Add", Add(x, y), complex(sum(a, c), sum(b, d)))
			wantNumber(t, "Sub", Sub(x, y), complex(less(a, c), less(b, d)))
			wantNumber(t, "Mul", Mul(x, y), complex(less(times(a, c), times(b, d)), sum(times(a, d), times(b, c))))
			n := sum(times(c, c), times(d, d))
			q, e := Div(x, y)
			if n == 0 {
				if e != api.ErrZero || !Same(q, 0) {
					t.Errorf("Div(%v, %v) = %v, %v", x, y, q, e)
				}
				continue
			}
			if e != api.OK {
				t.Errorf("Div(%v, %v): %v", x, y, e)
			}
			wantNumber(t, "Div", q, complex(over(sum(times(a, c), times(b, d)), n), over(less(times(b, c), times(a, d)), n)))
		}
	}
}

// P2.2: here a product that is taken together with a sum, without rounding of its own, shows.
func TestNothingTakenTogether(t *testing.T) {
	e := math.Ldexp(1, -30)
	x, y := complex(1+e, 1), complex(1-e, 1)
	wantNumber(t, "Mul", Mul(x, y), complex(0, 2))
	wantNumber(t, "Mul", Mul(complex(1, 1+e), complex(1, 1-e)), complex(0, 2))
	wantNumber(t, "Mul", Mul(complex(1+e, -1), complex(1, 1-e)), complex(2, 0))
	if n := Norm(complex(1+e, 1)); n != 2+4*math.Ldexp(1, -31) {
		t.Error(n)
	}
	q, _ := Div(complex(1+e, 1), complex(1-e, -1))
	if real(q) != 0 {
		t.Error(q)
	}
	q, _ = Div(complex(1, 1+e), complex(1-e, 1))
	if imag(q) != 0 {
		t.Error(q)
	}
}

// P2.2
func TestReckon(t *testing.T) {
	for _, c := range []struct {
		what      string
		got, want complex128
	}{
		{"Add", Add(1+2i, 3+4i), 4 + 6i},
		{"Add", Add(0.5-2i, 3+4.25i), 3.5 + 2.25i},
		{"Sub", Sub(1+2i, 3+5i), -2 - 3i},
		{"Mul", Mul(1+2i, 3+4i), -5 + 10i},
		{"Mul", Mul(1i, 1i), complex(-1, 0)},
		{"Conj", Conj(1 + 2i), 1 - 2i},
		{"Conj", Conj(1), complex(1, zero)},
		{"Conj", Conj(complex(1, zero)), 1},
		{"Conj", Conj(complex(zero, inf)), complex(zero, -inf)},
		// A nought's sign.
		{"Add", Add(complex(zero, zero), complex(zero, 0)), complex(zero, 0)},
		{"Add", Add(1, -1), 0},
		{"Sub", Sub(1+1i, 1+1i), 0},
		{"Sub", Sub(complex(zero, zero), 0), complex(zero, zero)},
		{"Sub", Sub(0, complex(zero, zero)), 0},
		{"Mul", Mul(complex(zero, 0), 1), complex(zero, 0)},
		{"Mul", Mul(-1, 0), complex(zero, 0)},
		{"Mul", Mul(complex(-1, zero), complex(0, 1)), complex(0, -1)},
		{"Mul", Mul(complex(-1, zero), complex(1, 0)), complex(-1, zero)},
		// Parts beyond all floats. No part is taken as if the number were infinite as a whole.
		{"Add", Add(complex(inf, math.MaxFloat64), complex(1, math.MaxFloat64)), complex(inf, inf)},
		{"Sub", Sub(complex(inf, 1), complex(inf, 1)), complex(math.NaN(), 0)},
		{"Mul", Mul(complex(inf, 0), 1i), complex(math.NaN(), inf)},
		{"Mul", Mul(complex(inf, inf), complex(inf, inf)), complex(math.NaN(), inf)},
		{"Mul", Mul(complex(1e200, 1e200), complex(1e200, 1e200)), complex(math.NaN(), inf)},
		{"Mul", Mul(complex(math.NaN(), 1), 2), complex(math.NaN(), math.NaN())},
	} {
		wantNumber(t, c.what, c.got, c.want)
	}
	for _, c := range []struct {
		z    complex128
		norm float64
	}{
		{3 + 4i, 25}, {3 - 4i, 25}, {0, 0}, {complex(zero, zero), 0}, {1e-170 + 1e-170i, 0},
		{1e200, inf}, {complex(-inf, 0), inf}, {complex(math.NaN(), 0), math.NaN()}, {complex(inf, math.NaN()), math.NaN()},
	} {
		if n := Norm(c.z); !same(n, c.norm) {
			t.Errorf("Norm(%v) = %v", c.z, n)
		}
	}
}

// P2.2
func TestDiv(t *testing.T) {
	for _, c := range []struct {
		a, b, want complex128
	}{
		{-5 + 10i, 3 + 4i, 1 + 2i},
		{-5 + 10i, 1 + 2i, 3 + 4i},
		{1, 1i, complex(0, -1)},
		{1, 3, complex(1.0/3, 0)},
		{-1, 2, complex(-0.5, 0)},
		{complex(zero, zero), 2, complex(zero, 0)},
		{1, 1e200, 0},
		{1e-150, 1e-150, 1},
		{1, complex(inf, 0), complex(math.NaN(), math.NaN())},
		{1, complex(math.NaN(), 0), complex(math.NaN(), math.NaN())},
		{complex(inf, 1), 2, complex(inf, math.NaN())},
	} {
		z, e := Div(c.a, c.b)
		if e != api.OK {
			t.Errorf("Div(%v, %v): %v", c.a, c.b, e)
		}
		wantNumber(t, "Div", z, c.want)
	}
	// The second and third ones are not 0 themselves, their Norm is.
	for _, b := range []complex128{0, 1e-170, 1e-170i, complex(zero, zero), complex(0, zero)} {
		for _, a := range []complex128{0, 1, 1 + 2i, complex(inf, inf), complex(math.NaN(), 1)} {
			if z, e := Div(a, b); e != api.ErrZero || !Same(z, 0) {
				t.Errorf("Div(%v, %v) = %v, %v", a, b, z, e)
			}
		}
	}
}

// P2.3
func TestPower(t *testing.T) {
	for _, c := range []struct {
		z    complex128
		n    int
		want complex128
	}{
		{1i, 0, 1}, {1i, 1, 1i}, {1i, 2, -1}, {1i, 3, complex(zero, -1)}, {1i, 4, complex(1, zero)},
		{2, 10, 1024},
		{1 + 1i, 64, 1 << 32},
		{2, 64, 1 << 64},
		{0, 0, 1}, {0, 1, 0}, {0, 64, 0},
		{complex(math.NaN(), inf), 0, 1},
		{complex(inf, 0), 1, complex(inf, math.NaN())},
		{complex(zero, 0), 1, complex(zero, 0)},
		{complex(zero, zero), 1, complex(0, zero)},
	} {
		z, e := Power(c.z, c.n)
		if e != api.OK {
			t.Errorf("Power(%v, %d): %v", c.z, c.n, e)
		}
		wantNumber(t, "Power", z, c.want)
	}
	for _, n := range []int{-1, -64, math.MinInt, 65, 66, 128, 256, 1 << 32, math.MaxInt} {
		if z, e := Power(1+1i, n); e != api.ErrArg || !Same(z, 0) {
			t.Errorf("Power(1 + 1i, %d) = %v, %v", n, z, e)
		}
	}
	for _, z := range edgeNumbers() {
		want := complex128(1)
		for n := range 65 {
			got, e := Power(z, n)
			if e != api.OK {
				t.Fatal(z, n, e)
			}
			wantNumber(t, "Power", got, want)
			want = Mul(want, z)
		}
	}
}

// P2.3
func TestFold(t *testing.T) {
	nan := math.NaN()
	for _, c := range []struct {
		l        []complex128
		at, want complex128
	}{
		{nil, 3, 0},
		{[]complex128{}, complex(nan, nan), 0},
		{[]complex128{1, 2}, 3, 7},
		{[]complex128{2, 1}, 3, 5},
		{[]complex128{1, 2, 1i}, 2, 5 + 4i},
		{[]complex128{1 + 2i}, 5, 1 + 2i},
		{[]complex128{0, 0, 0, 1}, 1i, complex(0, -1)},
		// What there is at the beginning is multiplied and added like all that follows.
		{[]complex128{1}, complex(inf, 0), complex(nan, nan)},
		{[]complex128{complex(zero, zero)}, 1, 0},
		{[]complex128{complex(zero, zero)}, complex(-1, -1), complex(0, zero)},
		{[]complex128{complex(1, inf)}, 2, complex(1, inf)},
	} {
		wantNumber(t, "Fold", Fold(c.l, c.at), c.want)
	}
	long := make([]complex128, 100000)
	for i := range long {
		long[i] = 1
	}
	wantNumber(t, "Fold", Fold(long, 1), 100000)
	for i, at := range edgeNumbers() {
		l := edgeNumbers()[i:min(i+5, len(edgeNumbers()))]
		want := complex128(0)
		for j := range l {
			want = Add(Mul(want, at), l[len(l)-1-j])
		}
		wantNumber(t, "Fold", Fold(l, at), want)
	}
}

// DOC.md, Memory: what is handed in is not changed, its spare room included.
func TestFoldLeavesItsList(t *testing.T) {
	room := []complex128{1, 2, 3, 4, 5}
	Fold(room[:3], 2)
	for i, z := range room {
		if z != complex(float64(i+1), 0) {
			t.Errorf("entry %d is %v", i, z)
		}
	}
}

// P2.4
func TestPart(t *testing.T) {
	const limit = 1 << 61
	for _, c := range []struct {
		part float64
		n    int
	}{
		{0, 0}, {zero, 0}, {1, 1}, {-1, -1}, {2.9, 2}, {-3.9, -3}, {0.999, 0}, {-0.999, 0}, {1e-300, 0}, {-1e-300, 0},
		{1<<53 - 1, 1<<53 - 1}, {1 << 53, 1 << 53}, {-1<<52 + 0.5, -1<<52 + 1}, {4503599627370495.5, 4503599627370495},
		{math.Nextafter(limit, 0), limit - 256}, {-limit, api.MinInt}, {math.Nextafter(-limit, 0), -limit + 256},
	} {
		if n, e := Part(complex(c.part, 7), false); n != c.n || e != api.OK {
			t.Errorf("Part(%v + 7i, false) = %d, %v", c.part, n, e)
		}
		if n, e := Part(complex(7, c.part), true); n != c.n || e != api.OK {
			t.Errorf("Part(7 + %vi, true) = %d, %v", c.part, n, e)
		}
	}
	wrong := []float64{limit, math.Nextafter(limit, inf), 1 << 62, 1 << 63, 1 << 64, math.MaxFloat64, inf,
		math.Nextafter(-limit, -inf), -1 << 62, -1 << 63, -1 << 64, -math.MaxFloat64, -inf}
	for _, bits := range noNumbers() {
		wrong = append(wrong, math.Float64frombits(bits))
	}
	for _, part := range wrong {
		if n, e := Part(complex(part, 7), false); n != 0 || e != api.ErrRange {
			t.Errorf("Part(%v + 7i, false) = %d, %v", part, n, e)
		}
		if n, e := Part(complex(7, part), true); n != 0 || e != api.ErrRange {
			t.Errorf("Part(7 + %vi, true) = %d, %v", part, n, e)
		}
		if n, e := Part(complex(part, 7), true); n != 7 || e != api.OK {
			t.Errorf("Part(%v + 7i, true) = %d, %v", part, n, e)
		}
		if n, e := Part(complex(7, part), false); n != 7 || e != api.OK {
			t.Errorf("Part(7 + %vi, false) = %d, %v", part, n, e)
		}
	}
}
