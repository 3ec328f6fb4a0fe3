package base

import (
	"jacquard/api"
	"jacquard/prim"
	"jacquard/tag"
)

// Atoms in the order in which instructions name them.
var atoms = [...]api.Value{api.Nil, api.False, api.True}

// plain does an instruction that goes on at the next one, unless there is a fault.
func (f *frame) plain(i api.Instr) int {
	var v api.Value
	fault := api.FaultNone
	switch i.Op {
	case api.OpPop, api.OpStore, api.OpBox, api.OpStoreCell, api.OpStoreCap, api.OpSetIndex, api.OpSetField:
		return f.write(i)
	case api.OpList, api.OpRec, api.OpFun, api.OpStr:
		v, fault = f.newObject(i)
	case api.OpBin, api.OpNot, api.OpNeg, api.OpIndex, api.OpField:
		v, fault = f.operation(i)
	default:
		v, fault = f.read(i)
	}
	if fault == api.FaultNone {
		f.push(v)
	}
	return fault
}

// write: what puts nothing on the stack.
func (f *frame) write(i api.Instr) int {
	h := f.thread.machine.heap
	switch i.Op {
	case api.OpStore:
		f.slots[i.A] = f.pop()
	case api.OpBox:
		return f.box(i.A)
	case api.OpStoreCell:
		return f.intoCell(f.slots[i.A], f.pop())
	case api.OpStoreCap:
		return f.intoCell(f.own(i.A), f.pop())
	case api.OpSetIndex:
		l := f.popAll(3)
		return prim.SetIndex(h, l[0], l[1], l[2])
	case api.OpSetField:
		l := f.popAll(2)
		return prim.SetField(h, l[0], f.text(i.A), l[1])
	default:
		f.pop()
	}
	return api.FaultNone
}

func (f *frame) newObject(i api.Instr) (api.Value, int) {
	m := f.thread.machine
	switch i.Op {
	case api.OpList:
		return made(m.heap.Arr(f.popAll(i.A)))
	case api.OpRec:
		places := m.image.Keys[i.A]
		keys := make([]string, len(places))
		for n, place := range places {
			keys[n] = f.text(place)
		}
		return made(m.heap.Rec(keys, f.popAll(len(keys))))
	case api.OpFun:
		return made(m.heap.Fun(i.A, f.cellsFor(m.image.Funs[i.A].Caps)))
	}
	return made(m.heap.Str([]byte(f.text(i.A))))
}

// operation: what prim does with what is on the stack.
func (f *frame) operation(i api.Instr) (api.Value, int) {
	h := f.thread.machine.heap
	switch i.Op {
	case api.OpBin:
		l := f.popAll(2)
		return prim.Bin(h, i.A, l[0], l[1])
	case api.OpIndex:
		l := f.popAll(2)
		return prim.Index(h, l[0], l[1])
	case api.OpNeg:
		return prim.Neg(h, f.pop())
	case api.OpField:
		return prim.Field(h, f.pop(), f.text(i.A))
	}
	return prim.Not(f.pop()), api.FaultNone
}

// read: what is there already.
func (f *frame) read(i api.Instr) (api.Value, int) {
	switch i.Op {
	case api.OpInt:
		return tag.Int(i.A), api.FaultNone
	case api.OpAtom:
		return atoms[i.A], api.FaultNone
	case api.OpLoad:
		return f.slots[i.A], api.FaultNone
	case api.OpLoadCell:
		return f.inCell(f.slots[i.A])
	case api.OpLoadCap:
		return f.inCell(f.own(i.A))
	case api.OpLoadGlobal:
		return f.thread.machine.globals[i.A], api.FaultNone
	}
	v, _ := tag.Prim(i.A) // any place of a primitive is the index of one
	return v, api.FaultNone
}

func (f *frame) text(place int) string { return f.thread.machine.image.Strs[place] }

// box puts what is in a slot into a new cell there.
func (f *frame) box(slot int) int {
	cell, fault := made(f.thread.machine.heap.Cell(f.slots[slot]))
	if fault == api.FaultNone {
		f.slots[slot] = cell
	}
	return fault
}

func (f *frame) inCell(cell api.Value) (api.Value, int) {
	h := f.thread.machine.heap
	if h.Kind(cell) != api.ObjCell { // others may have entries, too
		return 0, api.FaultType
	}
	v, _ := h.At(cell, 0)
	return v, api.FaultNone
}

func (f *frame) intoCell(cell, v api.Value) int {
	h := f.thread.machine.heap
	if h.Kind(cell) != api.ObjCell || h.Set(cell, 0, v) != api.OK {
		return api.FaultType
	}
	return api.FaultNone
}

// own is the function's own cell n. Whoever has the heap may make functions with fewer cells than they take: what is missing is nil, which is no cell.
func (f *frame) own(n int) api.Value {
	if n >= len(f.cells) {
		return api.Nil
	}
	return f.cells[n]
}

// cellsFor is what a function takes that is made here.
func (f *frame) cellsFor(caps []api.Cap) []api.Value {
	cells := make([]api.Value, len(caps))
	for i, c := range caps {
		if c.Own == 1 {
			cells[i] = f.slots[c.N]
		} else {
			cells[i] = f.own(c.N)
		}
	}
	return cells
}

// made tells a new object, or the fault by which it is not there.
func made(v api.Value, e api.Errno) (api.Value, int) {
	switch e {
	case api.OK:
		return v, api.FaultNone
	case api.ErrLong:
		return 0, api.FaultLong
	}
	return 0, api.FaultHeap
}
