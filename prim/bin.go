package prim

import (
	"bytes"

	"jacquard/api"
	"jacquard/cplx"
	"jacquard/heap"
	"jacquard/show"
	"jacquard/tag"
)

// Bin: an operation on two.
func Bin(h *heap.Heap, op int, a, b api.Value) (api.Value, int) {
	switch {
	case h == nil:
		return 0, api.FaultHeap
	case op == api.BinEq:
		return tag.Bool(show.Equal(h, a, b)), api.FaultNone
	case op == api.BinNe:
		return tag.Bool(!show.Equal(h, a, b)), api.FaultNone
	}
	x, y := kindOf(h, a), kindOf(h, b)
	switch {
	case x == kindInt && y == kindInt:
		return binNumbers(op, a, b)
	case x == kindInt && y == api.ObjCplx: // one complex number is enough for both to go on as such
		fallthrough
	case x == api.ObjCplx && y == kindInt:
		fallthrough
	case x == api.ObjCplx && y == api.ObjCplx:
		return binComplex(h, op, complexOf(h, a), complexOf(h, b))
	case x == api.ObjStr && y == api.ObjStr:
		return binStrings(h, op, a, b)
	}
	return 0, api.FaultType
}

// Neg: the negative.
func Neg(h *heap.Heap, a api.Value) (api.Value, int) {
	if h == nil {
		return 0, api.FaultHeap
	}
	switch kindOf(h, a) {
	case kindInt:
		v, _ := tag.Neg(a)
		return v, api.FaultNone
	case api.ObjCplx:
		return newComplex(h, cplx.Sub(0, complexOf(h, a)))
	}
	return 0, api.FaultType
}

func binNumbers(op int, a, b api.Value) (api.Value, int) {
	var v api.Value
	var e api.Errno
	switch op {
	case api.BinAdd:
		v, e = tag.Add(a, b)
	case api.BinSub:
		v, e = tag.Sub(a, b)
	case api.BinMul:
		v, e = tag.Mul(a, b)
	case api.BinDiv:
		v, e = tag.Div(a, b)
	case api.BinMod:
		v, e = tag.Mod(a, b)
	default:
		below, _ := tag.Less(a, b)
		above, _ := tag.Less(b, a)
		return compared(op, below, above)
	}
	if e != api.OK {
		return 0, api.FaultZero
	}
	return v, api.FaultNone
}

func binComplex(h *heap.Heap, op int, a, b complex128) (api.Value, int) {
	var z complex128
	var e api.Errno
	switch op {
	case api.BinAdd:
		z = cplx.Add(a, b)
	case api.BinSub:
		z = cplx.Sub(a, b)
	case api.BinMul:
		z = cplx.Mul(a, b)
	case api.BinDiv:
		z, e = cplx.Div(a, b)
	default:
		return 0, api.FaultType
	}
	if e != api.OK {
		return 0, api.FaultZero
	}
	return newComplex(h, z)
}

func binStrings(h *heap.Heap, op int, a, b api.Value) (api.Value, int) {
	x, _ := h.Bytes(a)
	y, _ := h.Bytes(b)
	if op == api.BinAdd {
		return newString(h, append(x, y...))
	}
	order := bytes.Compare(x, y)
	return compared(op, order < 0, order > 0)
}

// compared answers a comparison of two things, of which the first is below, or above, or neither.
func compared(op int, below, above bool) (api.Value, int) {
	switch op {
	case api.BinLt:
		return tag.Bool(below), api.FaultNone
	case api.BinLe:
		return tag.Bool(!above), api.FaultNone
	case api.BinGt:
		return tag.Bool(above), api.FaultNone
	case api.BinGe:
		return tag.Bool(!below), api.FaultNone
	}
	return 0, api.FaultType
}

// complexOf tells a complex number, or a number as one.
func complexOf(h *heap.Heap, v api.Value) complex128 {
	if n, isNum := tag.Num(v); isNum {
		return cplx.Make(n, 0)
	}
	re, im, _ := h.CplxOf(v)
	return cplx.Of(re, im)
}

func newComplex(h *heap.Heap, z complex128) (api.Value, int) {
	v, e := h.Cplx(cplx.Bits(z))
	return v, madeFault(e)
}
