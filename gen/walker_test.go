package gen

import (
	"iter"

	"jacquard/api"
	"jacquard/parse"
	"jacquard/prim"
	"jacquard/scope"
	"jacquard/tag"
)

// walker runs a program node by node, as P12.1 to P12.3 have it.
type walker struct {
	*shared
	nodes   []api.Node
	parts   [][]int
	scope   api.Scope
	numbers map[int]int
}

func newWalker(l []api.Node, most, depth int) *walker {
	s, e, _ := scope.Resolve(l)
	if e != api.OK {
		panic(e)
	}
	w := &walker{shared: newShared(most, depth, len(s.Globals)), nodes: l, scope: s, numbers: map[int]int{}}
	for f, fun := range s.Funs {
		w.numbers[fun.Node] = f
	}
	w.parts = partsOf(l)
	return w
}

// partsOf: of each node the places of what it is made of.
func partsOf(l []api.Node) [][]int {
	parts := make([][]int, len(l))
	for i, n := range l {
		at := i + 1
		for range n.N {
			parts[i] = append(parts[i], at)
			at, _ = parse.Behind(l, at)
		}
	}
	return parts
}

// call is a function that has been called.
type call struct {
	slots, cells []api.Value
	result       api.Value
}

// What a statement does beside its work.
const (
	goesOn = iota
	breaks
	continues
	returns
)

// What is told by a panic.
type (
	thrown api.Value
	dead   int
	left   struct{}
)

// stroll is a thread of a walker.
type stroll struct {
	*walker
	calls  int
	pause  func(api.Stop) bool
	handed api.Value
	wrong  int  // the fault that it is handed instead
	hurt   bool // that is on its way
	next   func() (api.Stop, bool)
	stop   func()
}

func (w *walker) start(l []api.Value) (thread, int) {
	s := &stroll{walker: w}
	number, cells := 0, []api.Value(nil)
	if len(l) > 0 {
		number, cells, _ = w.h.FunOf(l[0])
		l = l[1:]
	}
	c, f := s.enter(number, cells, l)
	if f != 0 {
		return nil, f
	}
	s.next, s.stop = iter.Pull(func(yield func(api.Stop) bool) {
		s.pause = yield
		if last, told := s.live(number, c); told {
			yield(last)
		}
	})
	return s, 0
}

// live is all of a thread, and how it ended.
func (s *stroll) live(number int, c *call) (last api.Stop, told bool) {
	defer func() {
		switch x := recover().(type) {
		case nil:
		case thrown:
			last, told = api.Stop{Kind: api.StopThrown, Value: api.Value(x)}, true
		case dead:
			last, told = api.Stop{Kind: api.StopDead, Fault: int(x)}, true
		case left:
			told = false
		default:
			panic(x)
		}
	}()
	return api.Stop{Kind: api.StopDone, Value: s.body(number, c)}, true
}

func (s *stroll) segment() api.Stop {
	x, _ := s.next()
	return x
}

func (s *stroll) resume(v api.Value) { s.handed, s.wrong = v, 0 }

func (s *stroll) fault(f int) api.Stop {
	s.wrong = f
	return s.segment()
}

func (s *stroll) leave() { s.stop() }

// halt ends a segment.
func (s *stroll) halt(x api.Stop) {
	if !s.pause(x) {
		panic(left{})
	}
}

func (s *stroll) safe() { s.halt(api.Stop{Kind: api.StopSafe}) }

// wait ends a segment, and goes on with what the thread is handed.
func (s *stroll) wait(x api.Stop) api.Value {
	s.halt(x)
	if s.wrong != 0 {
		s.hurt = true
		s.fail(s.wrong)
	}
	return s.handed
}

func (s *stroll) fail(f int) {
	if f == 0 {
		return
	}
	v, g := prim.Thrown(s.h, f)
	if g != 0 {
		panic(dead(g))
	}
	panic(thrown(v))
}

func (s *stroll) made(v api.Value, e api.Errno) api.Value {
	s.fail(faultOf(e))
	return v
}

func (s *stroll) told(v api.Value, f int) api.Value {
	s.fail(f)
	return v
}

// enter is a call's beginning.
func (s *stroll) enter(number int, cells, args []api.Value) (*call, int) {
	if s.calls == s.depth {
		return nil, api.FaultDepth
	}
	s.calls++
	fun := s.scope.Funs[number]
	c := &call{cells: cells, result: api.Nil}
	for range fun.Slots {
		c.slots = append(c.slots, api.Nil)
	}
	for i, v := range args {
		c.slots[i] = v
	}
	for i := range args {
		if s.scope.Uses[fun.Node+1+i].Where != api.UseCell {
			continue
		}
		v, e := s.h.Cell(c.slots[i])
		if e != api.OK {
			return nil, faultOf(e)
		}
		c.slots[i] = v
	}
	return c, 0
}

// body is what a function does in a call of it, and what that returns.
func (s *stroll) body(number int, c *call) api.Value {
	node := s.scope.Funs[number].Node
	list := s.parts[node]
	if number > 0 {
		list = s.parts[list[len(list)-1]]
	}
	s.row(c, list)
	s.calls--
	return c.result
}

// row does statements.
func (s *stroll) row(c *call, l []int) int {
	for _, i := range l {
		if x := s.do(c, i); x != goesOn {
			return x
		}
	}
	return goesOn
}

func (s *stroll) do(c *call, i int) int {
	n, p := s.nodes[i], s.parts[i]
	switch n.Kind {
	case api.NodeBlock:
		return s.row(c, p)
	case api.NodeVar:
		s.declare(c, i, s.value(c, p[0]))
	case api.NodeSet:
		s.set(c, p[0], p[1])
	case api.NodeIf:
		if tag.Truth(s.value(c, p[0])) {
			return s.do(c, p[1])
		} else if len(p) == 3 {
			return s.do(c, p[2])
		}
	case api.NodeWhile:
		return s.while(c, p[0], p[1])
	case api.NodeBreak:
		return breaks
	case api.NodeContinue:
		return continues
	case api.NodeReturn:
		if len(p) == 1 {
			c.result = s.value(c, p[0])
		}
		return returns
	case api.NodeThrow:
		panic(thrown(s.value(c, p[0])))
	case api.NodeTry:
		x, v, caught := s.try(c, p[0])
		if !caught {
			return x
		}
		s.declare(c, i, v)
		return s.do(c, p[1])
	case api.NodeFn:
		s.named(c, i)
	case api.NodeExpr:
		s.value(c, p[0])
	}
	return goesOn
}

// declare: what node i declares is v.
func (s *stroll) declare(c *call, i int, v api.Value) {
	u := s.scope.Uses[i]
	switch u.Where {
	case api.UseGlobal:
		s.vars[u.N] = v
		s.safe()
	case api.UseSlot:
		c.slots[u.N] = v
	case api.UseCell:
		c.slots[u.N] = s.made(s.h.Cell(v))
	}
}

func (s *stroll) named(c *call, i int) {
	u := s.scope.Uses[i]
	if u.Where != api.UseCell {
		s.declare(c, i, s.lambda(c, i))
		return
	}
	s.declare(c, i, api.Nil)
	s.put(c.slots[u.N], s.lambda(c, i))
}

func (s *stroll) put(cell, v api.Value) {
	if e := s.h.Set(cell, 0, v); e != api.OK {
		panic(e)
	}
}

func (s *stroll) set(c *call, target, value int) {
	n, p := s.nodes[target], s.parts[target]
	switch n.Kind {
	case api.NodeIndex:
		a, i := s.value(c, p[0]), s.value(c, p[1])
		s.fail(prim.SetIndex(s.h, a, i, s.value(c, value)))
		return
	case api.NodeField:
		r := s.value(c, p[0])
		s.fail(prim.SetField(s.h, r, n.Text, s.value(c, value)))
		return
	}
	v := s.value(c, value)
	switch u := s.scope.Uses[target]; u.Where {
	case api.UseSlot:
		c.slots[u.N] = v
	case api.UseCell:
		s.put(c.slots[u.N], v)
	case api.UseCap:
		s.put(c.cells[u.N], v)
	case api.UseGlobal:
		s.vars[u.N] = v
		s.safe()
	}
}

func (s *stroll) while(c *call, cond, block int) int {
	for tag.Truth(s.value(c, cond)) {
		switch s.do(c, block) {
		case breaks:
			return goesOn
		case returns:
			return returns
		}
		s.safe()
	}
	return goesOn
}

// try does a block, and tells what it did, or what it caught.
func (s *stroll) try(c *call, block int) (does int, v api.Value, caught bool) {
	calls := s.calls
	defer func() {
		x := recover()
		if x == nil {
			return
		}
		what, is := x.(thrown)
		if !is {
			panic(x)
		}
		s.calls = calls
		v, caught = api.Value(what), true
		if s.hurt { // who handed the fault is told that the thread goes on
			s.hurt = false
			s.halt(api.Stop{})
		}
	}()
	return s.do(c, block), 0, false
}

func (s *stroll) lambda(c *call, i int) api.Value {
	number := s.numbers[i]
	var cells []api.Value
	for _, x := range s.scope.Funs[number].Caps {
		if x.Own == 1 {
			cells = append(cells, c.slots[x.N])
		} else {
			cells = append(cells, c.cells[x.N])
		}
	}
	return s.made(s.h.Fun(number, cells))
}

// values are what a row of expressions comes to.
func (s *stroll) values(c *call, l []int) (out []api.Value) {
	for _, i := range l {
		out = append(out, s.value(c, i))
	}
	return out
}

func (s *stroll) value(c *call, i int) api.Value {
	n, p := s.nodes[i], s.parts[i]
	switch n.Kind {
	case api.NodeInt:
		return tag.Int(n.Num)
	case api.NodeStr:
		return s.made(s.h.Str([]byte(n.Text)))
	case api.NodeTrue:
		return api.True
	case api.NodeFalse:
		return api.False
	case api.NodeNil:
		return api.Nil
	case api.NodeName:
		return s.name(c, s.scope.Uses[i])
	case api.NodeList:
		return s.made(s.h.Arr(s.values(c, p)))
	case api.NodeRec:
		var keys []string
		var l []api.Value
		for _, k := range p {
			keys = append(keys, s.nodes[k].Text)
			l = append(l, s.value(c, s.parts[k][0]))
		}
		return s.made(s.h.Rec(keys, l))
	case api.NodeBin:
		op, _ := prim.Op(n.Text)
		a := s.value(c, p[0])
		return s.told(prim.Bin(s.h, op, a, s.value(c, p[1])))
	case api.NodeAnd, api.NodeOr:
		a := s.value(c, p[0])
		if tag.Truth(a) == (n.Kind == api.NodeOr) {
			return a
		}
		return s.value(c, p[1])
	case api.NodeNot:
		return prim.Not(s.value(c, p[0]))
	case api.NodeNeg:
		return s.told(prim.Neg(s.h, s.value(c, p[0])))
	case api.NodeIndex:
		a := s.value(c, p[0])
		return s.told(prim.Index(s.h, a, s.value(c, p[1])))
	case api.NodeField:
		return s.told(prim.Field(s.h, s.value(c, p[0]), n.Text))
	case api.NodeLambda:
		return s.lambda(c, i)
	case api.NodeSpawn:
		return s.spawn(s.values(c, p))
	}
	return s.call(s.values(c, p))
}

func (s *stroll) name(c *call, u api.Use) api.Value {
	cell := api.Value(0)
	switch u.Where {
	case api.UseSlot:
		return c.slots[u.N]
	case api.UseGlobal:
		return s.vars[u.N]
	case api.UsePrim:
		v, _ := tag.Prim(u.N)
		return v
	case api.UseCell:
		cell = c.slots[u.N]
	case api.UseCap:
		cell = c.cells[u.N]
	}
	v, e := s.h.At(cell, 0)
	if e != api.OK {
		panic(e)
	}
	return v
}

func (s *stroll) call(l []api.Value) api.Value {
	args := l[1:]
	if number, cells, e := s.h.FunOf(l[0]); e == api.OK {
		if len(args) != s.scope.Funs[number].Params {
			s.fail(api.FaultArgs)
		}
		c, f := s.enter(number, cells, args)
		s.fail(f)
		s.safe()
		v := s.body(number, c)
		s.safe()
		return v
	}
	if tag.Kind(l[0]) != api.KindPrim {
		s.fail(api.FaultCall)
	}
	p, _ := tag.Index(l[0])
	if len(args) != prim.Arity(p) {
		s.fail(api.FaultArgs)
	}
	if p >= api.PrimYield {
		return s.wait(api.Stop{Kind: api.StopPrim, Prim: p, Args: args})
	}
	return s.told(s.atOnce(p, args))
}

func (s *stroll) spawn(l []api.Value) api.Value {
	number, _, e := s.h.FunOf(l[0])
	if e != api.OK {
		s.fail(api.FaultCall)
	}
	if len(l)-1 != s.scope.Funs[number].Params {
		s.fail(api.FaultArgs)
	}
	return s.wait(api.Stop{Kind: api.StopSpawn, Args: l})
}
