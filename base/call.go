package base

import (
	"jacquard/api"
	"jacquard/prim"
	"jacquard/show"
	"jacquard/tag"
)

// doCall calls the first value with the others.
func (f *frame) doCall(l []api.Value) api.Stop {
	if tag.Kind(l[0]) == api.KindPrim {
		p, _ := tag.Index(l[0])
		return f.doPrim(p, l[1:])
	}
	to, fault := f.thread.machine.targetOf(l)
	if fault == api.FaultNone {
		fault = f.thread.enter(to, f.push)
	}
	if fault != api.FaultNone {
		return f.fail(fault)
	}
	return safe()
}

// doPrim calls a primitive. (One that there is not takes no number of arguments: FaultArgs.)
func (f *frame) doPrim(p int, args []api.Value) api.Stop {
	switch {
	case len(args) != prim.Arity(p):
		return f.fail(api.FaultArgs)
	case p >= api.PrimYield:
		return f.wait(api.Stop{Kind: api.StopPrim, Prim: p, Args: args})
	}
	v, fault := f.thread.machine.atOnce(p, args)
	if fault != api.FaultNone {
		return f.fail(fault)
	}
	f.push(v)
	return api.Stop{}
}

// atOnce does a primitive up to kind.
func (m *Machine) atOnce(p int, args []api.Value) (api.Value, int) {
	if p != api.PrimPrint {
		return prim.Pure(m.heap, p, args)
	}
	text, e := show.Text(m.heap, args[0])
	if e != api.OK {
		return 0, api.FaultLong
	}
	m.out = append(m.out, text)
	return api.Nil, api.FaultNone
}

// doSpawn asks for a thread that calls the first value with the others.
func (f *frame) doSpawn(l []api.Value) api.Stop {
	if _, fault := f.thread.machine.targetOf(l); fault != api.FaultNone {
		return f.fail(fault)
	}
	return f.wait(api.Stop{Kind: api.StopSpawn, Args: l})
}
