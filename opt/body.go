package opt

import (
	"slices"

	"jacquard/api"
)

// body makes the steps of one call: of the function itself, or of one within it. Values that are read are put off: on the stack they are sources, till a step takes them.
type body struct {
	*maker
	number int // of its function
	code   api.Code
	base   int // the register of slot 0; what is on the stack has its own registers behind the slots
	slots  []thing
	always []thing // what is known of the slots wherever it comes from
	stack  []held
	leads  map[int]*landing // by the places to which something leads
	row    []int            // those of them that are still to be gone through
	caller *caller          // of the function itself: nil
}

// held is a thing on the stack.
type held struct {
	thing
	entry int // the one that has it with all that is below; none: there is none yet
}

// landing is a place to which something leads: there all things on the stack are in their own registers.
type landing struct {
	step    int // its first one; none: it was not gone through yet
	high    int // how many things are on the stack
	patches []func(step int)
}

// caller is what a call within goes back to.
type caller struct {
	about  int // the mark of the calls about it, while it goes on
	behind int // and where it has returned
	args   []thing
	deep   int // how many calls it is within
	backs  []func(step int)
}

func (m *maker) newBody(number, base int, c *caller) *body {
	b := &body{
		maker:  m,
		number: number,
		code:   m.image.Funs[number],
		base:   base,
		leads:  map[int]*landing{},
		caller: c,
	}
	m.reserve(base + b.code.Slots)
	b.begin()
	for _, i := range b.code.Code {
		if leadsToA(i.Op) {
			b.leads[i.A] = &landing{step: none}
		}
	}
	return b
}

func leadsToA(op int) bool {
	switch op {
	case api.OpJump, api.OpFalse, api.OpKeepFalse, api.OpKeepTrue, api.OpLoop:
		return true
	}
	return false
}

// begin: what is known of the slots at first. It always holds of those that the function does not write.
func (b *body) begin() {
	for slot := range b.code.Slots {
		b.slots = append(b.slots, b.atFirst(slot))
	}
	b.always = slices.Clone(b.slots)
	for _, i := range b.code.Code {
		if i.Op == api.OpStore || i.Op == api.OpBox {
			b.always[i.A] = b.inSlot(i.A)
		}
	}
}

// atFirst: what is known of a slot at first. (What an ordinary call is handed, boxed or not, is in its registers.)
func (b *body) atFirst(slot int) thing {
	switch {
	case !b.folds():
		return b.inSlot(slot)
	case slot >= b.code.Params:
		return b.constant(api.Nil)
	case b.caller != nil && isConstant(b.caller.args[slot].source):
		return b.caller.args[slot]
	}
	return b.inSlot(slot)
}

// inSlot: nothing is known of a slot but where it is.
func (b *body) inSlot(slot int) thing { return inRegister(b.base + slot) }

// own is the register of what is on the stack with so many things below.
func (b *body) own(below int) int { return b.base + b.code.Slots + below }

// goThrough goes through all instructions that the steps come to, from one landing after another. Where what is thrown is caught nothing goes: what is thrown leaves the code.
func (b *body) goThrough() {
	for at := 0; at != none; {
		at = b.instruction(at)
	}
	for len(b.row) > 0 {
		at := b.row[len(b.row)-1]
		b.row = b.row[:len(b.row)-1]
		l := b.leads[at]
		if l.step != none { // it was come to on another way
			continue
		}
		b.stack = b.stack[:0]
		for below := range l.high {
			b.push(inRegister(b.own(below)))
		}
		for at != none {
			at = b.instruction(at)
		}
	}
}

// land: a place to which something leads is come to from the one ahead. It tells whether that was not gone through yet.
func (b *body) land(l *landing) bool {
	b.settle()
	if l.step != none {
		s := b.newStep(api.OpJump, 0)
		s.Next = l.step
		b.add(s)
		return false
	}
	l.step = len(b.steps)
	for _, patch := range l.patches {
		patch(l.step)
	}
	l.patches = nil
	b.sealed = l.step
	copy(b.slots, b.always)
	return true
}

// leadTo: a step leads to a place, with the stack as it is, which is settled.
func (b *body) leadTo(at, step int) {
	l := b.leads[at]
	patch := b.patchOf(step)
	if l.step != none {
		patch(l.step)
		return
	}
	if len(l.patches) == 0 {
		l.high = len(b.stack)
		b.row = append(b.row, at)
	}
	l.patches = append(l.patches, patch)
}

// newStep: one that takes, puts and leads to nothing yet.
func (b *body) newStep(op, a int, from ...thing) Step {
	s := Step{Op: op, Fun: b.number, A: a, To: none, Next: none, mark: none}
	for _, x := range from {
		s.From = append(s.From, x.source)
	}
	return s
}

func (b *body) move(x thing, to int) {
	s := b.newStep(StepMove, 0, x)
	s.To = to
	b.add(s)
}

func (b *body) push(x thing) { b.stack = append(b.stack, held{thing: x, entry: none}) }

// pushResult makes room for what a step puts: it tells the register.
func (b *body) pushResult() int {
	to := b.own(len(b.stack))
	b.push(inRegister(to))
	return to
}

func (b *body) pop() thing { return b.take(1)[0] }

// take takes the last n things, the lowest first.
func (b *body) take(n int) []thing {
	rest := len(b.stack) - n
	var l []thing
	for _, h := range b.stack[rest:] {
		l = append(l, h.thing)
	}
	b.stack = b.stack[:rest]
	return l
}

// settle puts all that is on the stack into its own registers.
func (b *body) settle() {
	for below := range b.stack {
		b.settleOne(below)
	}
}

func (b *body) settleOne(below int) {
	own := b.own(below)
	if b.stack[below].source == own {
		return
	}
	b.move(b.stack[below].thing, own)
	b.stack[below].thing = inRegister(own)
	for i := below; i < len(b.stack); i++ {
		b.stack[i].entry = none
	}
}

// save: a slot is to be written; what is on the stack as what was in it stays what it was.
func (b *body) save(slot int) {
	for below := range b.stack {
		if b.stack[below].source == b.base+slot {
			b.settleOne(below)
		}
	}
}

// markAt tells the mark of the calls as they stand, the next instruction being at a place.
func (b *body) markAt(at int) int {
	m := mark{fun: b.number, at: at, slots: b.base, top: b.topEntry(), about: none}
	if b.caller != nil {
		m.about = b.caller.about
	}
	b.marks = append(b.marks, m)
	return len(b.marks) - 1
}

func (b *body) topEntry() int {
	below := none
	for i := range b.stack {
		h := &b.stack[i]
		if h.entry == none {
			h.entry = len(b.entries)
			b.entries = append(b.entries, entry{source: h.source, below: below})
		}
		below = h.entry
	}
	return below
}
