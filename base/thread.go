package base

import (
	"slices"

	"jacquard/api"
	"jacquard/prim"
)

// call is one that has not returned: a function's (frame), or one that its thread waits in (pending). Where they differ they are told apart by what they are.
type call interface {
	// goOn goes on up to a stop, or, which is a stop of Kind 0, till another call is the innermost one or something was thrown.
	goOn() api.Stop
}

// pending is the call of a primitive, or a spawn, that the thread stopped for and waits in.
type pending struct {
	stop   api.Stop
	handOn func(api.Value)
}

func (p *pending) goOn() api.Stop {
	s := p.stop
	s.Args = slices.Clone(s.Args)
	return s
}

// target is a function that can be called, with what it is called with.
type target struct {
	fun   int
	cells []api.Value
	args  []api.Value
}

// targetOf is the function that the first value is, to be called with the others; or a fault.
func (m *Machine) targetOf(l []api.Value) (target, int) {
	if len(l) == 0 {
		return target{}, api.FaultCall
	}
	fun, cells, e := m.heap.FunOf(l[0])
	switch {
	case e != api.OK || fun >= len(m.image.Funs): // whoever has the heap may make functions of any number
		return target{}, api.FaultCall
	case len(l)-1 != m.image.Funs[fun].Params:
		return target{}, api.FaultArgs
	}
	return target{fun: fun, cells: cells, args: l[1:]}, api.FaultNone
}

// start is a new thread, which ends when its first call returns.
func (m *Machine) start(to target) (*Thread, int) {
	t := &Thread{machine: m}
	if fault := t.enter(to, t.done); fault != api.FaultNone {
		return nil, fault
	}
	return t, api.FaultNone
}

// has: is it a thread of this machine? (What others do is open; here they are as nil.)
func (m *Machine) has(t *Thread) bool { return m != nil && t != nil && t.machine == m }

// innermost is the call that goes on; nil, if there is none.
func (t *Thread) innermost() call {
	if len(t.calls) == 0 {
		return nil
	}
	return t.calls[len(t.calls)-1]
}

// pending is what the thread waits in, if it waits.
func (t *Thread) pending() (*pending, bool) {
	p, waits := t.innermost().(*pending)
	return p, waits
}

// views are the calls of functions, as they stand.
func (t *Thread) views() []api.View {
	var views []api.View
	for _, c := range t.calls {
		if f, is := c.(*frame); is {
			views = append(views, f.view())
		}
	}
	return views
}

// enter begins a call; what it returns is handed to whoever waits for it.
func (t *Thread) enter(to target, handOn func(api.Value)) int {
	m := t.machine
	if len(t.calls) >= m.depth {
		return api.FaultDepth
	}
	c := &m.image.Funs[to.fun]
	f := &frame{thread: t, fun: to.fun, code: c, slots: allNil(c.Slots), cells: to.cells, handOn: handOn}
	copy(f.slots, to.args)
	for _, slot := range c.Boxes {
		if fault := f.box(slot); fault != api.FaultNone {
			return fault
		}
	}
	t.calls = append(t.calls, f)
	return api.FaultNone
}

// leave ends the innermost call.
func (t *Thread) leave() {
	last := len(t.calls) - 1
	t.calls[last] = nil
	t.calls = t.calls[:last]
}

// done: the first call returned.
func (t *Thread) done(v api.Value) { t.end(api.Stop{Kind: api.StopDone, Value: v}) }

// end: the thread is over.
func (t *Thread) end(s api.Stop) {
	t.calls = nil
	t.last = s
}

// fault is thrown where the thread stands, or ends it.
func (t *Thread) fault(f int) {
	v, ending := prim.Thrown(t.machine.heap, f)
	if ending != api.FaultNone {
		t.end(api.Stop{Kind: api.StopDead, Fault: ending})
		return
	}
	t.throw(v)
}

// throw ends calls up to one that catches what is thrown.
func (t *Thread) throw(v api.Value) {
	for len(t.calls) > 0 {
		if f, is := t.innermost().(*frame); is && f.catch(v) {
			return
		}
		t.leave()
	}
	t.end(api.Stop{Kind: api.StopThrown, Value: v})
}
