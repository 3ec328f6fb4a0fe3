package verify

import (
	"jacquard/api"
	"jacquard/code"
)

// mostTaken is how many entries, or arguments, an instruction may take by its A.
const mostTaken = 255

// codeFault is what is wrong first with an instruction of c, or, behind them, with a Try, and its place.
func codeFault(im api.Image, c api.Code) (int, api.Errno) {
	for at := range c.Code {
		if e := instrFault(im, c, at); e != api.OK {
			return at, e
		}
	}
	for _, t := range c.Tries {
		if !tryIsRight(t, len(c.Code)) {
			return len(c.Code), api.ErrRange
		}
	}
	return 0, api.OK
}

func instrFault(im api.Image, c api.Code, at int) api.Errno {
	i := c.Code[at]
	least, behind := rangeOf(im, c, at)
	switch {
	case code.Name(i.Op) == "":
		return api.ErrKind
	case i.A < least || i.A >= behind:
		fallthrough
	case i.Op == api.OpFun && !capsFit(im.Funs[i.A].Caps, c):
		fallthrough
	case i.B != 0:
		return api.ErrRange
	}
	return api.OK
}

// rangeOf is where the A of an instruction must be: from least on, ahead of behind.
func rangeOf(im api.Image, c api.Code, at int) (least, behind int) {
	switch c.Code[at].Op {
	case api.OpInt:
		return api.MinInt, api.MaxInt + 1
	case api.OpAtom:
		return 0, 3
	case api.OpStr, api.OpField, api.OpSetField:
		return 0, len(im.Strs)
	case api.OpPrim:
		return 0, api.Prims
	case api.OpLoad, api.OpStore, api.OpBox, api.OpLoadCell, api.OpStoreCell:
		return 0, c.Slots
	case api.OpLoadCap, api.OpStoreCap:
		return 0, len(c.Caps)
	case api.OpLoadGlobal, api.OpStoreGlobal:
		return 0, im.Globals
	case api.OpList, api.OpCall, api.OpSpawn:
		return 0, mostTaken + 1
	case api.OpRec:
		return 0, len(im.Keys)
	case api.OpFun:
		return 1, len(im.Funs)
	case api.OpBin:
		return 0, api.BinGe + 1
	case api.OpJump, api.OpFalse, api.OpKeepFalse, api.OpKeepTrue:
		return at + 1, len(c.Code)
	case api.OpLoop:
		return 0, at + 1
	}
	return 0, 1
}

// capsFit: does the function that makes another one have all that this takes?
func capsFit(caps []api.Cap, maker api.Code) bool {
	for _, p := range caps {
		has := len(maker.Caps)
		if p.Own == 1 {
			has = maker.Slots
		}
		if !isPlace(p.N, has) {
			return false
		}
	}
	return true
}

func tryIsRight(t api.Try, many int) bool {
	return 0 <= t.From && t.From <= t.To && t.To <= t.Target && t.Target < many && isPlace(t.Depth, api.MaxStack)
}
