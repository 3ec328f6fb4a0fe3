package scope

import (
	"jacquard/api"
	"jacquard/parse"
)

// none is the declaration that a name hides where none of it was seen.
const none = -1

// place is where in the program a node stands.
type place struct {
	names map[string]int // declared in the innermost node that may declare, with what each hides; nil right below the Prog
	fun   int            // the function that it belongs to
	loops int            // of that function, about it
}

// function is one of the program's, with what it takes.
type function struct {
	api.Fun
	about int         // the function that its node belongs to
	caps  map[int]int // places in Caps, by declarations
}

// declaration is of something in a slot.
type declaration struct {
	fun   int
	slot  int
	taken bool // some function captures it
}

// resolver goes through the nodes in their order, up to the first fault.
type resolver struct {
	place
	nodes    []api.Node
	next     int
	funs     []function
	uses     []api.Use // till all is read, N of a UseSlot is a declaration: a later Name may make it a UseCell
	globals  []string
	ahead    map[string]int // by a global's name: how many globals are ahead of it
	declared []declaration
	seen     map[string]int // by name: the innermost declaration that is seen
	fault    api.Errno
	faulty   int
}

func newResolver(l []api.Node) *resolver {
	return &resolver{
		nodes: l,
		next:  1,
		funs:  []function{{}},
		uses:  make([]api.Use, len(l)),
		ahead: globalsOf(l),
		seen:  map[string]int{},
	}
}

// globalsOf looks ahead for the globals, since these are seen ahead of their nodes, too.
func globalsOf(l []api.Node) map[string]int {
	ahead := map[string]int{}
	count := 0
	at := 1
	for range l[0].N {
		if l[at].Kind == api.NodeVar || l[at].Kind == api.NodeFn {
			if _, twice := ahead[l[at].Text]; !twice {
				ahead[l[at].Text] = count
			}
			count++
		}
		at, _ = parse.Behind(l, at)
	}
	return ahead
}

// fail keeps the first fault alone.
func (r *resolver) fail(i int, e api.Errno) {
	if r.fault == api.OK {
		r.fault, r.faulty = e, i
	}
}

func (r *resolver) program() { r.parts(r.nodes[0].N) }

// parts goes through so many nodes, with all that these are made of.
func (r *resolver) parts(due int) {
	for ; due > 0 && r.fault == api.OK; due-- {
		i := r.next
		r.next++
		switch r.nodes[i].Kind {
		case api.NodeBlock:
			r.block(i)
		case api.NodeVar:
			r.variable(i)
		case api.NodeWhile:
			r.loop()
		case api.NodeTry:
			r.attempt(i)
		case api.NodeFn:
			r.named(i)
		case api.NodeLambda:
			r.function(i)
		default:
			r.plain(i)
			due += r.nodes[i].N // in a row with the others: so what is nested needs no call of its own
		}
	}
}

// plain looks at a node about whose parts there is nothing to keep.
func (r *resolver) plain(i int) {
	switch r.nodes[i].Kind {
	case api.NodeSet:
		r.set(i)
	case api.NodeBreak, api.NodeContinue:
		if r.loops == 0 {
			r.fail(i, api.ErrForm)
		}
	case api.NodeReturn:
		if r.fun == 0 {
			r.fail(i, api.ErrForm)
		}
	case api.NodeName:
		r.name(i)
	}
}

// set: no declaration of a primitive's name is ever seen, so the name alone decides.
func (r *resolver) set(i int) {
	target := r.nodes[i+1]
	if target.Kind != api.NodeName {
		return
	}
	if _, is := Prim(target.Text); is {
		r.fail(i, api.ErrKind)
	}
}

// enter goes into a node that may declare, and tells the place that leave goes back to.
func (r *resolver) enter(fun, loops int) place {
	about := r.place
	r.place = place{names: map[string]int{}, fun: fun, loops: loops}
	return about
}

func (r *resolver) leave(about place) {
	for name, hidden := range r.names {
		if hidden == none {
			delete(r.seen, name)
		} else {
			r.seen[name] = hidden
		}
	}
	r.place = about
}

func (r *resolver) block(i int) {
	defer r.leave(r.enter(r.fun, r.loops))
	r.parts(r.nodes[i].N)
}

// variable: its slot comes in the order of nodes, but it is seen behind its value alone.
func (r *resolver) variable(i int) {
	r.declare(i)
	r.parts(1)
	r.show(i)
}

func (r *resolver) loop() {
	r.parts(1)
	r.loops++
	r.parts(1)
	r.loops--
}

// attempt: what is caught has its slot ahead of those of the first Block, which does not see it.
func (r *resolver) attempt(i int) {
	defer r.leave(r.enter(r.fun, r.loops))
	r.declare(i)
	r.parts(1)
	r.show(i)
	r.parts(1)
}

func (r *resolver) named(i int) {
	r.declare(i)
	r.show(i)
	r.function(i)
}

func (r *resolver) function(i int) {
	if len(r.funs) == api.MaxFuns {
		r.fail(i, api.ErrMany)
		return
	}
	params := r.nodes[i].Num
	r.funs = append(r.funs, function{Fun: api.Fun{Node: i, Params: params}, about: r.fun, caps: map[int]int{}})
	defer r.leave(r.enter(len(r.funs)-1, 0))
	for range params {
		r.declare(r.next)
		r.show(r.next)
		r.next++
	}
	r.parts(1)
}

// whole is what was found out, when all is read.
func (r *resolver) whole() api.Scope {
	s := api.Scope{Uses: r.uses, Globals: r.globals}
	for _, f := range r.funs {
		s.Funs = append(s.Funs, f.Fun)
	}
	for i, u := range s.Uses {
		if u.Where == api.UseSlot {
			s.Uses[i] = r.declared[u.N].use()
		}
	}
	return s
}
