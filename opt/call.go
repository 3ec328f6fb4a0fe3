package opt

import (
	"jacquard/api"
	"jacquard/tag"
)

// Functions within are no longer than mostOne each, and mostAll in all.
const (
	mostOne = 400
	mostAll = 8000
)

// call: of a function that is known it may be within.
func (b *body) call(at, n int) int {
	called := b.stack[len(b.stack)-1-n].thing
	if b.fitsWithin(called.fun, n) {
		return b.callWithin(at, n, called.fun)
	}
	v, is := b.value(called)
	if !is || tag.Kind(v) != api.KindPrim {
		b.plain(at, b.code.Code[at])
		return at + 1
	}
	p, _ := tag.Index(v)
	args := b.take(n)
	b.pop()
	s := b.newStep(StepPrim, p, args...)
	s.mark = b.markAt(at + 1)
	s.To = b.pushResult()
	b.add(s)
	return at + 1
}

// deep is how many calls this one is within.
func (b *body) deep() int {
	if b.caller == nil {
		return 0
	}
	return b.caller.deep
}

// fitsWithin: may a call of a function with n values be within?
func (b *body) fitsWithin(f, n int) bool {
	if f == none || f == b.fun || b.deep() >= b.how.Inline {
		return false
	}
	c := b.image.Funs[f]
	if len(c.Boxes) > 0 || len(c.Caps) > 0 || c.Params != n {
		return false
	}
	return b.hasRoom(c)
}

// hasRoom: is there room for the steps of a function within? There are at most two for each instruction, and one for each slot of a function within; so code does not get too long by what is within it.
func (b *body) hasRoom(c api.Code) bool {
	long := lengthOf(c)
	own := len(b.image.Funs[b.fun].Code)
	return long <= mostOne && b.spent+long <= mostAll && 3*(own+b.spent+long) <= most
}

func lengthOf(c api.Code) int { return len(c.Code) + c.Slots }

// callWithin makes the steps of a call within: its slots are what it is called with, then it is as any other, but that it goes back to behind itself. Its registers begin where what it returns is to be.
func (b *body) callWithin(at, n, f int) int {
	c := &caller{args: b.take(n + 1)[1:], deep: b.deep() + 1, about: b.markAt(at + 1)}
	to := b.pushResult()
	c.behind = b.markAt(at + 1)
	b.within[f] = f
	b.spent += lengthOf(b.image.Funs[f])
	inner := b.newBody(f, to, c)
	inner.enter()
	inner.goThrough()
	for _, patch := range c.backs {
		patch(len(b.steps))
	}
	b.sealed = len(b.steps)
	if len(c.backs) == 0 {
		return none
	}
	return at + 1
}

// enter sets the slots, the first one first: what goes into a slot stands in a register behind it, if it stands on the caller's stack.
func (b *body) enter() {
	for slot := range b.code.Slots {
		x := b.constant(api.Nil)
		if slot < b.code.Params {
			x = b.caller.args[slot]
		}
		b.move(x, b.base+slot)
	}
	s := b.newStep(StepEnter, b.number)
	s.mark = b.markAt(0)
	b.add(s)
}

func (b *body) giveBack() {
	x := b.pop()
	if b.caller == nil {
		b.add(b.newStep(api.OpReturn, 0, x))
		return
	}
	s := b.newStep(StepBack, 0, x)
	s.To = b.base
	s.mark = b.caller.behind
	b.caller.backs = append(b.caller.backs, b.patchOf(b.add(s)))
}
