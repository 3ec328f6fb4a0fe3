package base

import (
	"jacquard/api"
	"jacquard/tag"
)

// Atoms in the order in which instructions name them.
var atoms = [...]api.Value{api.Nil, api.False, api.True}

// plain does an instruction that goes on at the next one, unless there is a fault.
func (f *frame) plain(i api.Instr) int {
	switch i.Op {
	case api.OpInt:
		f.push(tag.Int(i.A))
	case api.OpAtom:
		f.push(atoms[i.A])
	case api.OpPrim:
		v, _ := tag.Prim(i.A) // any place of a primitive is the index of one
		f.push(v)
	case api.OpPop:
		f.pop()
	case api.OpLoad:
		f.push(f.slots[i.A])
	case api.OpStore:
		f.slots[i.A] = f.pop()
	case api.OpLoadGlobal:
		f.push(f.Global(i.A))
	default:
		return f.reckon(i)
	}
	return api.FaultNone
}

// reckon does one that is done alike by whatever code a call runs.
func (f *frame) reckon(i api.Instr) int {
	l := f.taken(i)
	if i.Op == api.OpBin || i.Op == api.OpNeg {
		f.overseer().Had(f.fun, f.at-1, l[0], l[len(l)-1])
	}
	v, fault := f.Do(i, l)
	if fault != api.FaultNone {
		return fault
	}
	switch i.Op {
	case api.OpBox:
		f.slots[i.A] = v
	case api.OpStoreCell, api.OpStoreCap, api.OpSetIndex, api.OpSetField:
	default:
		f.push(v)
	}
	return api.FaultNone
}

// taken is what an instruction has to do with, as Do is handed it.
func (f *frame) taken(i api.Instr) []api.Value {
	switch i.Op {
	case api.OpBox, api.OpLoadCell:
		return f.slots[i.A : i.A+1]
	case api.OpStoreCell:
		return []api.Value{f.slots[i.A], f.pop()}
	case api.OpFun:
		return f.takenAlong(f.thread.machine.image.Funs[i.A].Caps)
	case api.OpList:
		return f.popAll(i.A)
	case api.OpRec:
		return f.popAll(len(f.thread.machine.image.Keys[i.A]))
	case api.OpSetIndex:
		return f.popAll(3)
	case api.OpBin, api.OpIndex, api.OpSetField:
		return f.popAll(2)
	case api.OpNot, api.OpNeg, api.OpField, api.OpStoreCap:
		return f.popAll(1)
	}
	return nil
}

// takenAlong is what is in the slots that a function takes.
func (f *frame) takenAlong(caps []api.Cap) []api.Value {
	var l []api.Value
	for _, c := range caps {
		if c.Own == 1 {
			l = append(l, f.slots[c.N])
		}
	}
	return l
}
