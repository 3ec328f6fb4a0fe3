// Package tag is layer 1: see shared/doc/01-tag.md.
package tag

import "jacquard/api"

// The kinds stand in the order of the tags, so that a tag is its kind's number; the last one is no tag.
const (
	kindInt = iota
	kindAtom
	kindRef
	kindPrim
	kindNone
)

// A tag takes the two lowest bits of a word.
const (
	tagBits = 2
	tagMask = 1<<tagBits - 1
)

// The operations that make a number of numbers.
const (
	opAdd = iota
	opSub
	opNeg
	opMul
	opDiv
	opMod
)

// Int: a number's value.
func Int(n int) api.Value {
	// The shift drops the two bits by which n could leave the range: that is n modulo 2^62.
	return api.Value(n)<<tagBits | kindInt
}

// Ref: a reference's.
func Ref(i int) (api.Value, api.Errno) { return indexed(i, kindRef) }

// Prim: a primitive's.
func Prim(i int) (api.Value, api.Errno) { return indexed(i, kindPrim) }

// Bool: a truth's.
func Bool(b bool) api.Value {
	if b {
		return api.True
	}
	return api.False
}

// Kind: of which kind a word is.
func Kind(v api.Value) int {
	kind := int(v & tagMask)
	switch kind {
	case kindAtom:
		if v != api.Nil && v != api.False && v != api.True {
			return kindNone
		}
	case kindRef, kindPrim:
		if v>>tagBits > api.MaxRef {
			return kindNone
		}
	}
	return kind
}

// Num: a value's number.
func Num(v api.Value) (int, bool) {
	if Kind(v) != kindInt {
		return 0, false
	}
	// A signed shift, so that a negative number's sign fills the upper bits.
	return int(v) >> tagBits, true
}

// Index: a reference's or primitive's.
func Index(v api.Value) (int, bool) {
	switch Kind(v) {
	case kindRef, kindPrim:
		return int(v >> tagBits), true
	}
	return 0, false
}

// Truth: what counts as true.
func Truth(v api.Value) bool { return v != api.Nil && v != api.False }

// Add: a sum.
func Add(a, b api.Value) (api.Value, api.Errno) { return reckon(opAdd, a, b) }

// Sub: a difference.
func Sub(a, b api.Value) (api.Value, api.Errno) { return reckon(opSub, a, b) }

// Mul: a product.
func Mul(a, b api.Value) (api.Value, api.Errno) { return reckon(opMul, a, b) }

// Div: a quotient.
func Div(a, b api.Value) (api.Value, api.Errno) { return reckon(opDiv, a, b) }

// Mod: what is left.
func Mod(a, b api.Value) (api.Value, api.Errno) { return reckon(opMod, a, b) }

// Neg: the negative.
func Neg(a api.Value) (api.Value, api.Errno) { return reckon(opNeg, a, a) }

// Less: is one below another?
func Less(a, b api.Value) (bool, api.Errno) {
	x, y, e := pair(a, b)
	if e != api.OK {
		return false, e
	}
	return x < y, api.OK
}

// indexed makes a value of an index, with the tag of its kind.
func indexed(i, kind int) (api.Value, api.Errno) {
	if i < 0 || i > api.MaxRef {
		return 0, api.ErrArg
	}
	return api.Value(i)<<tagBits | api.Value(kind), api.OK
}

// pair tells the numbers of two values.
func pair(a, b api.Value) (x, y int, e api.Errno) {
	x, isNum := Num(a)
	if !isNum {
		return 0, 0, api.ErrKind
	}
	y, isNum = Num(b)
	if !isNum {
		return 0, 0, api.ErrKind
	}
	return x, y, api.OK
}

// reckon does an operation in 64 bits. Sums, negatives and quotients have room there, and a product that wraps
// round modulo 2^64 is still right modulo 2^62, so that Int alone takes every result into its range.
func reckon(op int, a, b api.Value) (api.Value, api.Errno) {
	x, y, e := pair(a, b)
	if e != api.OK {
		return 0, e
	}
	if y == 0 && (op == opDiv || op == opMod) {
		return 0, api.ErrZero
	}
	switch op {
	case opNeg: // goes on as the difference from 0
		x, y = 0, x
		fallthrough
	case opSub: // goes on as the sum with the negative
		y = -y
		fallthrough
	case opAdd:
		x += y
	case opMul:
		x *= y
	case opDiv:
		x /= y
	case opMod:
		x %= y
	}
	return Int(x), api.OK
}
