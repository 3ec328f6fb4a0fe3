package base

import (
	"jacquard/api"
	"jacquard/prim"
	"jacquard/show"
	"jacquard/tag"
)

// Seat is the place of a function's call in its thread, by whatever code it runs: by it the call does what has to do with more than its own slots and values.
type Seat struct {
	thread *Thread
	cells  []api.Value     // the function's own
	take   func(api.Value) // where what it waits for goes
	handOn func(api.Value) // where what it returns goes
}

// Call calls the first value with the others.
func (s *Seat) Call(l []api.Value) api.Stop {
	if tag.Kind(l[0]) == api.KindPrim {
		p, _ := tag.Index(l[0])
		return s.CallPrim(p, l[1:])
	}
	to, fault := s.thread.machine.targetOf(l)
	if fault == api.FaultNone {
		fault = s.thread.enter(to, s.take)
	}
	if fault != api.FaultNone {
		return s.Fault(fault)
	}
	return safe()
}

// CallPrim calls a primitive. (One that there is not takes no number of arguments: FaultArgs.)
func (s *Seat) CallPrim(p int, args []api.Value) api.Stop {
	switch {
	case len(args) != prim.Arity(p):
		return s.Fault(api.FaultArgs)
	case p >= api.PrimYield:
		return s.wait(api.Stop{Kind: api.StopPrim, Prim: p, Args: args})
	}
	v, fault := s.thread.machine.atOnce(p, args)
	if fault != api.FaultNone {
		return s.Fault(fault)
	}
	s.take(v)
	return api.Stop{}
}

// atOnce does a primitive up to kind.
func (m *Machine) atOnce(p int, args []api.Value) (api.Value, int) {
	if p != api.PrimPrint {
		return prim.Pure(m.heap, p, args)
	}
	text, e := show.Text(m.heap, args[0])
	if e != api.OK {
		return 0, api.FaultLong
	}
	m.out = append(m.out, text)
	return api.Nil, api.FaultNone
}

// Spawn asks for a thread that calls the first value with the others.
func (s *Seat) Spawn(l []api.Value) api.Stop {
	if _, fault := s.thread.machine.targetOf(l); fault != api.FaultNone {
		return s.Fault(fault)
	}
	return s.wait(api.Stop{Kind: api.StopSpawn, Args: l})
}

// wait stops the thread till it is handed what the call takes.
func (s *Seat) wait(stop api.Stop) api.Stop {
	p := &pending{stop: stop, handOn: s.take}
	s.thread.calls = append(s.thread.calls, p)
	return p.GoOn()
}

// Return ends the call. (The stop is another one, if that ended the thread.)
func (s *Seat) Return(v api.Value) api.Stop {
	s.thread.leave()
	s.handOn(v)
	s.thread.settle()
	return safe()
}

// Throw throws a value: the thread goes on where it is caught, if it is.
func (s *Seat) Throw(v api.Value) api.Stop {
	s.thread.throw(v)
	return api.Stop{}
}

// Fault throws a fault, or ends the thread by it.
func (s *Seat) Fault(fault int) api.Stop {
	s.thread.fault(fault)
	return api.Stop{}
}

// Global is what one is.
func (s *Seat) Global(g int) api.Value { return s.thread.machine.globals[g] }

// SetGlobal writes one.
func (s *Seat) SetGlobal(g int, v api.Value) {
	m := s.thread.machine
	m.globals[g] = v
	m.overseer.Wrote(g, v)
}

// BeginWithin begins a call of a function within this one, which is no call of its own in the thread, but counts as one.
func (s *Seat) BeginWithin(f int) int {
	if !s.thread.hasRoom() {
		return api.FaultDepth
	}
	s.thread.within++
	s.thread.machine.overseer.Began(f)
	return api.FaultNone
}

// EndWithin ends the innermost call within this one.
func (s *Seat) EndWithin() { s.thread.within-- }
