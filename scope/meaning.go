package scope

import "jacquard/api"

// use is what a declaration's node, and each Name of its own function that means it, has.
func (d declaration) use() api.Use {
	if d.taken {
		return api.Use{Where: api.UseCell, N: d.slot}
	}
	return api.Use{Where: api.UseSlot, N: d.slot}
}

// declare gives what a node declares its number; nobody sees it yet (but a global).
func (r *resolver) declare(i int) {
	if _, is := Prim(r.nodes[i].Text); is {
		r.fail(i, api.ErrKind)
		return
	}
	if r.names == nil {
		r.declareGlobal(i)
	} else {
		r.declareSlot(i)
	}
}

func (r *resolver) declareGlobal(i int) {
	name := r.nodes[i].Text
	number := len(r.globals)
	switch {
	case r.ahead[name] < number:
		r.fail(i, api.ErrTwice)
	case number == api.MaxGlobals:
		r.fail(i, api.ErrMany)
	default:
		r.globals = append(r.globals, name)
		r.uses[i] = api.Use{Where: api.UseGlobal, N: number}
	}
}

func (r *resolver) declareSlot(i int) {
	f := &r.funs[r.fun]
	_, twice := r.names[r.nodes[i].Text]
	switch {
	case twice:
		r.fail(i, api.ErrTwice)
	case f.Slots == api.MaxSlots:
		r.fail(i, api.ErrMany)
	default:
		r.uses[i] = api.Use{Where: api.UseSlot, N: len(r.declared)}
		r.declared = append(r.declared, declaration{fun: r.fun, slot: f.Slots})
		f.Slots++
	}
}

// show: from here on what the node declares is seen, up to the end of the node that it is declared in.
func (r *resolver) show(i int) {
	u := r.uses[i]
	if u.Where != api.UseSlot {
		return
	}
	name := r.nodes[i].Text
	hidden, is := r.seen[name]
	if !is {
		hidden = none
	}
	r.names[name] = hidden
	r.seen[name] = u.N
}

// name says what a Name that declares nothing means.
func (r *resolver) name(i int) {
	text := r.nodes[i].Text
	if d, is := r.seen[text]; is {
		r.meansSlot(i, d)
		return
	}
	if number, is := r.ahead[text]; is {
		r.uses[i] = api.Use{Where: api.UseGlobal, N: number}
		return
	}
	if number, is := Prim(text); is {
		r.uses[i] = api.Use{Where: api.UsePrim, N: number}
		return
	}
	r.fail(i, api.ErrNone)
}

func (r *resolver) meansSlot(i, d int) {
	if r.declared[d].fun == r.fun {
		r.uses[i] = api.Use{Where: api.UseSlot, N: d}
		return
	}
	r.declared[d].taken = true
	r.uses[i] = api.Use{Where: api.UseCap, N: r.take(i, r.fun, d)}
}

// take: the place of another function's declaration in the Caps of a function, and of those between, for a Name.
func (r *resolver) take(i, fun, d int) int {
	f := &r.funs[fun]
	if at, has := f.caps[d]; has {
		return at
	}
	c := api.Cap{Own: 1, N: r.declared[d].slot}
	if f.about != r.declared[d].fun {
		c = api.Cap{N: r.take(i, f.about, d)}
	}
	at := len(f.Caps)
	if at == api.MaxCaps {
		r.fail(i, api.ErrMany)
		return 0
	}
	f.Caps = append(f.Caps, c)
	f.caps[d] = at
	return at
}
