package cplx

import (
	"math"
	"testing"

	"jacquard/api"
)

// P2.5: what follows of one number.
func TestFollowsOfOne(t *testing.T) {
	for _, x := range edgeNumbers() {
		if !Same(Conj(Conj(x)), x) {
			t.Errorf("Conj of Conj of %v", x)
		}
		if Norm(x) < 0 || math.Signbit(Norm(x)) {
			t.Errorf("Norm(%v) is below 0", x)
		}
		if !Same(x, x) {
			t.Errorf("%v is not the same as itself", x)
		}
		if !Same(Of(Bits(x)), x) {
			t.Errorf("Of the Bits of %v", x)
		}
	}
}

// P2.5: what follows of two numbers.
func TestFollowsOfTwo(t *testing.T) {
	for _, x := range edgeNumbers() {
		for _, y := range edgeNumbers() {
			if !Same(Add(x, y), Add(y, x)) || !Same(Mul(x, y), Mul(y, x)) {
				t.Errorf("%v, %v: the order counts", x, y)
			}
			// A nought's sign is all that Conj of a product may tell otherwise: x - x is +0, and so is y - y of what is mirrored.
			if a, b := Conj(Mul(x, y)), Mul(Conj(x), Conj(y)); !Same(Add(a, 0), Add(b, 0)) {
				t.Errorf("%v, %v: Conj of the product is %v, the product of both %v", x, y, a, b)
			}
		}
	}
}

// P2.5: what Make makes Part tells.
func TestFollowsMakePart(t *testing.T) {
	const limit = 1 << 53
	l := []int{0, 1, 2, 3, 1000003, limit/2 - 1, limit / 2, limit/2 + 1, limit - 2, limit - 1, limit}
	for _, a := range l {
		for _, b := range l {
			for _, c := range [][2]int{{a, b}, {-a, b}, {a, -b}, {-a, -b}} {
				z := Make(c[0], c[1])
				if n, e := Part(z, false); n != c[0] || e != api.OK {
					t.Errorf("Part(%v, false) = %d, %v", z, n, e)
				}
				if n, e := Part(z, true); n != c[1] || e != api.OK {
					t.Errorf("Part(%v, true) = %d, %v", z, n, e)
				}
			}
		}
	}
}

// P2.1: parts that are no number have one form, wherever they come from; their bits must not hang on the machine.
func TestNoNumberHasOneForm(t *testing.T) {
	for _, bits := range noNumbers() {
		x := complex(math.Float64frombits(bits), math.Float64frombits(bits^1<<63))
		q, _ := Div(1, x)
		p, _ := Power(x, 3)
		made := []complex128{Add(x, 1), Sub(1, x), Mul(x, x), Conj(x), q, p, Fold([]complex128{1, x}, 2), complex(Norm(x), Norm(x))}
		for i, z := range made {
			if math.Float64bits(real(z)) != nan || math.Float64bits(imag(z)) != nan {
				t.Errorf("%x, %d: %x %x", bits, i, math.Float64bits(real(z)), math.Float64bits(imag(z)))
			}
		}
	}
}
