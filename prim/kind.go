package prim

import (
	"jacquard/api"
	"jacquard/heap"
	"jacquard/tag"
)

// Kinds of all values in one row: those of objects keep their numbers, the others come behind them; 0 is none.
const (
	kindInt = api.ObjThr + 1 + iota
	kindNil
	kindBool
	kindPrim
)

var kindNames = [...]string{
	api.ObjStr: "string", api.ObjArr: "array", api.ObjRec: "record", api.ObjCell: "cell", api.ObjFun: "function",
	api.ObjCplx: "complex", api.ObjMon: "monitor", api.ObjBox: "box", api.ObjThr: "thread",
	kindInt: "int", kindNil: "nil", kindBool: "bool", kindPrim: "prim",
}

// kindOf is 0 of a word that is no value, and of a reference that no object has.
func kindOf(h *heap.Heap, v api.Value) int {
	switch tag.Kind(v) {
	case api.KindInt:
		return kindInt
	case api.KindAtom:
		if v == api.Nil {
			return kindNil
		}
		return kindBool
	case api.KindPrim:
		return kindPrim
	}
	return h.Kind(v)
}
