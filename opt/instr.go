package opt

import (
	"jacquard/api"
	"jacquard/code"
	"jacquard/tag"
)

// instruction makes the steps of one, and tells where it goes on; none: nowhere that is still to be gone through.
func (b *body) instruction(at int) int {
	if l, is := b.leads[at]; is && !b.land(l) {
		return none
	}
	i := b.code.Code[at]
	switch i.Op {
	case api.OpJump:
		return i.A
	case api.OpFalse, api.OpKeepFalse, api.OpKeepTrue:
		return b.branch(at, i)
	case api.OpCall:
		return b.call(at, i.A)
	case api.OpLoop:
		b.loop(i.A)
		return none
	case api.OpReturn:
		b.giveBack()
		return none
	case api.OpThrow:
		b.plain(at, i)
		return none
	case api.OpPop:
		b.pop()
	case api.OpStore:
		b.store(i.A)
	case api.OpBox:
		b.box(at, i.A)
	case api.OpBin:
		b.bin(at, i)
	case api.OpNot, api.OpNeg:
		b.single(at, i)
	case api.OpInt, api.OpAtom, api.OpPrim, api.OpLoad, api.OpLoadGlobal:
		b.read(i)
	default:
		b.plain(at, i)
	}
	return at + 1
}

// read: what is there already is put off, but for a global that is not known: it may be another one later.
func (b *body) read(i api.Instr) {
	switch i.Op {
	case api.OpInt:
		b.push(b.constant(tag.Int(i.A)))
	case api.OpAtom:
		b.push(b.constant(atom(i.A)))
	case api.OpPrim:
		v, _ := tag.Prim(i.A)
		b.push(b.constant(v))
	case api.OpLoad:
		b.push(b.slots[i.A])
	case api.OpLoadGlobal:
		x, is := b.global(i.A)
		if is {
			b.push(x)
			return
		}
		s := b.newStep(i.Op, i.A)
		s.To = b.pushResult()
		b.add(s)
	}
}

// atom: in the order in which instructions name them.
func atom(n int) api.Value {
	switch n {
	case 0:
		return api.Nil
	case 1:
		return api.False
	}
	return api.True
}

// plain: a step that does just what the instruction does.
func (b *body) plain(at int, i api.Instr) {
	takes, puts, _ := code.Effect(b.image, i)
	from := append(b.slotsOf(i), b.take(takes)...)
	s := b.newStep(i.Op, i.A, from...)
	s.mark = b.markAt(at + 1)
	if puts > 0 {
		s.To = b.pushResult()
	}
	b.add(s)
}

// slotsOf are the slots that an instruction has to do with: of fun those that the new function takes along.
func (b *body) slotsOf(i api.Instr) []thing {
	var l []thing
	switch i.Op {
	case api.OpLoadCell, api.OpStoreCell:
		l = append(l, b.inSlot(i.A))
	case api.OpFun:
		for _, c := range b.image.Funs[i.A].Caps {
			if c.Own == 1 {
				l = append(l, b.inSlot(c.N))
			}
		}
	}
	return l
}

func (b *body) store(slot int) {
	x := b.pop()
	b.save(slot)
	if !b.putInto(x, b.base+slot) {
		b.move(x, b.base+slot)
	}
	b.slots[slot] = b.inSlot(slot)
	if isConstant(x.source) && b.folds() {
		b.slots[slot] = x
	}
}

// putInto: what was on top of the stack goes elsewhere at once, if the last step has just put it there.
func (b *body) putInto(x thing, to int) bool {
	last := len(b.steps) - 1
	if last < b.sealed {
		return false
	}
	s := &b.steps[last]
	if x.source != b.own(len(b.stack)) || s.To != x.source || stops(s.Op) {
		return false
	}
	s.To = to
	return true
}

// stops: may a thread stop in a step, and be handed what that puts, so that it must be on the stack first?
func stops(op int) bool {
	switch op {
	case api.OpCall, api.OpSpawn, StepPrim:
		return true
	}
	return false
}

func (b *body) box(at, slot int) {
	b.save(slot)
	s := b.newStep(api.OpBox, slot, b.inSlot(slot))
	s.mark = b.markAt(at + 1)
	s.To = b.base + slot
	b.add(s)
	b.slots[slot] = b.inSlot(slot)
}

// branch: where it is known what a value counts as, it goes one way.
func (b *body) branch(at int, i api.Instr) int {
	keeps, truth := i.Op != api.OpFalse, i.Op == api.OpKeepTrue
	if v, is := b.value(b.stack[len(b.stack)-1].thing); is && b.folds() {
		goes := tag.Truth(v) == truth
		if !goes || !keeps {
			b.pop()
		}
		if goes {
			return i.A
		}
		return at + 1
	}
	var x thing
	if !keeps {
		x = b.pop()
	}
	b.settle()
	if keeps {
		x = b.stack[len(b.stack)-1].thing
	}
	op := api.OpFalse
	if truth {
		op = StepTrue
	}
	b.leadTo(i.A, b.add(b.newStep(op, 0, x)))
	if keeps {
		b.pop()
	}
	return at + 1
}

func (b *body) loop(to int) {
	b.settle()
	s := b.newStep(api.OpLoop, to)
	s.mark = b.markAt(to)
	b.leadTo(to, b.add(s))
}
