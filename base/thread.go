package base

import (
	"slices"

	"jacquard/api"
	"jacquard/prim"
)

// call is one that has not returned: a function's, an ordinary one (frame) or a faster one (quick), or one that its thread waits in (pending). Where they differ they are told apart by what they are.
type call interface {
	// GoOn goes on up to a stop, or, which is a stop of Kind 0, till another call is the innermost one, or something was thrown.
	GoOn() api.Stop
}

// pending is the call of a primitive, or a spawn, that the thread stopped for and waits in.
type pending struct {
	stop   api.Stop
	handOn func(api.Value)
}

func (p *pending) GoOn() api.Stop {
	s := p.stop
	s.Args = slices.Clone(s.Args)
	return s
}

// quick is a call of a function that runs by faster code.
type quick struct {
	Seat
	Faster
}

func newQuick(s Seat, v Version, slots []api.Value) *quick {
	q := &quick{Seat: s}
	q.Faster = v.Begin(&q.Seat, slots)
	q.take = q.Take
	return q
}

// views are the calls that it stands for.
func (q *quick) views() []api.View {
	views := q.Views()
	views[0].Cells = slices.Clone(q.cells)
	return views
}

// target is a function that can be called, with what it is called with.
type target struct {
	fun   int
	cells []api.Value
	args  []api.Value
}

// targetOf is the function that the first value is, to be called with the others; or a fault.
func (m *Machine) targetOf(l []api.Value) (target, int) {
	if len(l) == 0 {
		return target{}, api.FaultCall
	}
	fun, cells, e := m.heap.FunOf(l[0])
	switch {
	case e != api.OK || fun >= len(m.image.Funs): // whoever has the heap may make functions of any number
		return target{}, api.FaultCall
	case len(l)-1 != m.image.Funs[fun].Params:
		return target{}, api.FaultArgs
	}
	return target{fun: fun, cells: cells, args: l[1:]}, api.FaultNone
}

// slotsOf is what a call has in its slots at first.
func (m *Machine) slotsOf(to target) ([]api.Value, int) {
	c := &m.image.Funs[to.fun]
	slots := allNil(c.Slots)
	copy(slots, to.args)
	for _, slot := range c.Boxes {
		cell, fault := made(m.heap.Cell(slots[slot]))
		if fault != api.FaultNone {
			return nil, fault
		}
		slots[slot] = cell
	}
	return slots, api.FaultNone
}

// start is a new thread, which ends when its first call returns.
func (m *Machine) start(to target) (*Thread, int) {
	t := &Thread{machine: m}
	if fault := t.enter(to, t.done); fault != api.FaultNone {
		return nil, fault
	}
	return t, api.FaultNone
}

// has: is it a thread of this machine? (What others do is open; here they are as nil.)
func (m *Machine) has(t *Thread) bool { return m != nil && t != nil && t.machine == m }

// innermost is the call that goes on; nil, if there is none.
func (t *Thread) innermost() call {
	if len(t.calls) == 0 {
		return nil
	}
	return t.calls[len(t.calls)-1]
}

// pending is what the thread waits in, if it waits.
func (t *Thread) pending() (*pending, bool) {
	p, waits := t.innermost().(*pending)
	return p, waits
}

// views are the calls of functions, as they stand.
func (t *Thread) views() []api.View {
	var views []api.View
	for _, c := range t.calls {
		if f, is := c.(*frame); is {
			views = append(views, f.views()...)
		}
		if q, is := c.(*quick); is {
			views = append(views, q.views()...)
		}
	}
	return views
}

// hasRoom: may there be one call more?
func (t *Thread) hasRoom() bool { return len(t.calls)+t.within < t.machine.depth }

// enter begins a call; what it returns is handed to whoever waits for it.
func (t *Thread) enter(to target, handOn func(api.Value)) int {
	m := t.machine
	if !t.hasRoom() {
		return api.FaultDepth
	}
	slots, fault := m.slotsOf(to)
	if fault != api.FaultNone {
		return fault
	}
	m.overseer.Began(to.fun)
	s := Seat{thread: t, cells: to.cells, handOn: handOn}
	if v := m.overseer.Version(to.fun); v != nil {
		t.calls = append(t.calls, newQuick(s, v, slots))
	} else {
		t.calls = append(t.calls, newFrame(s, to.fun, slots))
	}
	return api.FaultNone
}

// leave ends the innermost call.
func (t *Thread) leave() {
	last := len(t.calls) - 1
	t.calls[last] = nil
	t.calls = t.calls[:last]
}

// settle: a faster call that is to go on, but holds no longer, goes on as ordinary ones.
func (t *Thread) settle() {
	if q, is := t.innermost().(*quick); is && !q.Holds() {
		t.unfold(q)
	}
}

// unfold puts the ordinary calls that the innermost one stands for in its place.
func (t *Thread) unfold(q *quick) {
	views := q.views()
	q.Left()
	t.leave()
	t.within -= len(views) - 1
	handOn := q.handOn
	for _, v := range views {
		f := newFrame(Seat{thread: t, cells: v.Cells, handOn: handOn}, v.Fun, v.Slots)
		f.at, f.stack = v.At, v.Stack
		t.calls = append(t.calls, f)
		handOn = f.push
	}
}

// done: the first call returned.
func (t *Thread) done(v api.Value) { t.end(api.Stop{Kind: api.StopDone, Value: v}) }

// end: the thread is over.
func (t *Thread) end(s api.Stop) {
	t.calls = nil
	t.last = s
}

// fault is thrown where the thread stands, or ends it.
func (t *Thread) fault(f int) {
	v, ending := prim.Thrown(t.machine.heap, f)
	if ending != api.FaultNone {
		t.end(api.Stop{Kind: api.StopDead, Fault: ending})
		return
	}
	t.throw(v)
}

// throw ends calls up to one that catches what is thrown; faster ones do so as ordinary ones.
func (t *Thread) throw(v api.Value) {
	for len(t.calls) > 0 {
		if q, is := t.innermost().(*quick); is {
			t.unfold(q)
		}
		if f, is := t.innermost().(*frame); is && f.catch(v) {
			return
		}
		t.leave()
	}
	t.end(api.Stop{Kind: api.StopThrown, Value: v})
}
