package base

import (
	"jacquard/api"
	"jacquard/prim"
)

// Do does an instruction by which nothing goes on elsewhere, and which is done alike by whatever code a call runs: box, and all that make objects, reckon, or have to do with cells, entries and fields. It is handed what is in the slots that the instruction names (of fun: those that the new function takes), then what that takes, and tells what that puts.
func (s *Seat) Do(i api.Instr, l []api.Value) (api.Value, int) {
	switch i.Op {
	case api.OpList, api.OpRec, api.OpFun, api.OpStr, api.OpBox:
		return s.newObject(i, l)
	case api.OpBin, api.OpNot, api.OpNeg, api.OpIndex, api.OpField:
		return s.operation(i, l)
	}
	return s.access(i, l)
}

func (s *Seat) newObject(i api.Instr, l []api.Value) (api.Value, int) {
	m := s.thread.machine
	switch i.Op {
	case api.OpList:
		return made(m.heap.Arr(l))
	case api.OpRec:
		places := m.image.Keys[i.A]
		keys := make([]string, len(places))
		for n, place := range places {
			keys[n] = s.text(place)
		}
		return made(m.heap.Rec(keys, l))
	case api.OpFun:
		return made(m.heap.Fun(i.A, s.cellsFor(m.image.Funs[i.A].Caps, l)))
	case api.OpBox:
		return made(m.heap.Cell(l[0]))
	}
	return made(m.heap.Str([]byte(s.text(i.A))))
}

// operation: what prim does.
func (s *Seat) operation(i api.Instr, l []api.Value) (api.Value, int) {
	h := s.thread.machine.heap
	switch i.Op {
	case api.OpBin:
		return prim.Bin(h, i.A, l[0], l[1])
	case api.OpIndex:
		return prim.Index(h, l[0], l[1])
	case api.OpNeg:
		return prim.Neg(h, l[0])
	case api.OpField:
		return prim.Field(h, l[0], s.text(i.A))
	}
	return prim.Not(l[0]), api.FaultNone
}

// access: what has to do with cells, and what writes entries and fields.
func (s *Seat) access(i api.Instr, l []api.Value) (api.Value, int) {
	h := s.thread.machine.heap
	switch i.Op {
	case api.OpLoadCell:
		return s.inCell(l[0])
	case api.OpStoreCell:
		return 0, s.intoCell(l[0], l[1])
	case api.OpLoadCap:
		return s.inCell(s.own(i.A))
	case api.OpStoreCap:
		return 0, s.intoCell(s.own(i.A), l[0])
	case api.OpSetIndex:
		return 0, prim.SetIndex(h, l[0], l[1], l[2])
	}
	return 0, prim.SetField(h, l[0], s.text(i.A), l[1])
}

func (s *Seat) text(place int) string { return s.thread.machine.image.Strs[place] }

func (s *Seat) inCell(cell api.Value) (api.Value, int) {
	h := s.thread.machine.heap
	if h.Kind(cell) != api.ObjCell { // others may have entries, too
		return 0, api.FaultType
	}
	v, _ := h.At(cell, 0)
	return v, api.FaultNone
}

func (s *Seat) intoCell(cell, v api.Value) int {
	h := s.thread.machine.heap
	if h.Kind(cell) != api.ObjCell || h.Set(cell, 0, v) != api.OK {
		return api.FaultType
	}
	return api.FaultNone
}

// own is the function's own cell n. Whoever has the heap may make functions with fewer cells than they take: what is missing is nil, which is no cell.
func (s *Seat) own(n int) api.Value {
	if n >= len(s.cells) {
		return api.Nil
	}
	return s.cells[n]
}

// cellsFor is what a function takes that is made here, by its Caps; of the slots among them what is in those is handed in.
func (s *Seat) cellsFor(caps []api.Cap, slots []api.Value) []api.Value {
	cells := make([]api.Value, len(caps))
	for i, c := range caps {
		if c.Own == 1 {
			cells[i], slots = slots[0], slots[1:]
		} else {
			cells[i] = s.own(c.N)
		}
	}
	return cells
}

// made tells a new object, or the fault by which it is not there.
func made(v api.Value, e api.Errno) (api.Value, int) {
	switch e {
	case api.OK:
		return v, api.FaultNone
	case api.ErrLong:
		return 0, api.FaultLong
	}
	return 0, api.FaultHeap
}
