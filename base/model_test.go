package base

import (
	"iter"
	"slices"

	"jacquard/api"
	"jacquard/code"
	"jacquard/heap"
	"jacquard/prim"
	"jacquard/show"
	"jacquard/tag"
)

// model runs an image once more, otherwise: a call is a call of Go, what is thrown a panic, a thread an iterator that is pulled from stop to stop.
type model struct {
	im      api.Image
	h       *heap.Heap
	globals []api.Value
	texts   []string
	depth   int
	done    map[string]int // which instructions were done how often
	told    []event        // what whoever oversees it must be told
}

func newModel(im api.Image, most, depth int) *model {
	h, e := heap.New(most)
	if e != api.OK {
		panic(e)
	}
	m := &model{im: im, h: h, depth: depth, done: map[string]int{}}
	for range im.Globals {
		m.globals = append(m.globals, api.Nil)
	}
	return m
}

// What is told by a panic.
type (
	thrown api.Value
	dead   int
	left   struct{}
)

// stroll is a thread of a model; its calls' Ats are the next instructions.
type stroll struct {
	*model
	calls  []*api.View
	pause  func(api.Stop) bool
	handed api.Value
	wrong  int  // the fault that it is handed instead
	hurt   bool // that is on its way
	waits  bool
	ended  bool
	last   api.Stop
	next   func() (api.Stop, bool)
	stop   func()
}

func (m *model) main() *stroll {
	s, _ := m.begin(0, nil, nil)
	return s
}

func (m *model) spawn(l []api.Value) (*stroll, int) {
	f, cells, ok := 0, []api.Value(nil), false
	if len(l) > 0 {
		f, cells, ok = m.function(l[0])
	}
	switch {
	case !ok:
		return nil, api.FaultCall
	case m.im.Funs[f].Params != len(l)-1:
		return nil, api.FaultArgs
	}
	return m.begin(f, cells, l[1:])
}

func (m *model) function(v api.Value) (f int, cells []api.Value, ok bool) {
	f, cells, e := m.h.FunOf(v)
	return f, cells, e == api.OK && f < len(m.im.Funs)
}

func (m *model) begin(f int, cells, args []api.Value) (*stroll, int) {
	s := &stroll{model: m}
	if x := s.enter(f, cells, args); x != 0 {
		return nil, x
	}
	s.next, s.stop = iter.Pull(func(yield func(api.Stop) bool) {
		s.pause = yield
		if last, is := s.live(); is {
			yield(last)
		}
	})
	return s, 0
}

// live is all of a thread, and how it ended.
func (s *stroll) live() (last api.Stop, is bool) {
	defer func() {
		switch x := recover().(type) {
		case nil:
		case thrown:
			last, is = api.Stop{Kind: api.StopThrown, Value: api.Value(x)}, true
		case dead:
			last, is = api.Stop{Kind: api.StopDead, Fault: int(x)}, true
		case left:
			is = false
		default:
			panic(x)
		}
	}()
	return api.Stop{Kind: api.StopDone, Value: s.run()}, true
}

// leave is called when a thread goes on no more.
func (s *stroll) leave() { s.stop() }

func (s *stroll) pull() api.Stop {
	x, _ := s.next()
	if x.Kind >= api.StopDone {
		s.calls, s.ended, s.waits = nil, true, false
	} else {
		s.waits = x.Kind == api.StopPrim || x.Kind == api.StopSpawn
	}
	return x
}

func (s *stroll) segment() api.Stop {
	if !s.ended && !s.waits {
		s.last = s.pull()
	}
	return s.last
}

func (s *stroll) resume(v api.Value) api.Errno {
	switch {
	case !s.waits:
		return api.ErrTime
	case !s.h.Good(v):
		return api.ErrArg
	}
	s.handed, s.wrong, s.waits = v, 0, false
	c := s.calls[len(s.calls)-1]
	c.Stack = append(c.Stack, v)
	return api.OK
}

func (s *stroll) fault(f int) (api.Stop, api.Errno) {
	switch {
	case !s.waits:
		return api.Stop{}, api.ErrTime
	case prim.FaultText(f) == "":
		return api.Stop{}, api.ErrArg
	}
	s.wrong = f
	s.last = s.pull()
	return s.last, api.OK
}

func (s *stroll) halt(x api.Stop) {
	if !s.pause(x) {
		panic(left{})
	}
}

func (s *stroll) fail(f int) {
	if f == 0 {
		return
	}
	v, ends := prim.Thrown(s.h, f)
	if ends != 0 {
		panic(dead(ends))
	}
	panic(thrown(v))
}

func (s *stroll) enter(f int, cells, args []api.Value) int {
	if len(s.calls) == s.depth {
		return api.FaultDepth
	}
	c := &api.View{Fun: f, Cells: cells}
	for i := range s.im.Funs[f].Slots {
		v := api.Nil
		if i < len(args) {
			v = args[i]
		}
		c.Slots = append(c.Slots, v)
	}
	for i := range c.Slots {
		if !slices.Contains(s.im.Funs[f].Boxes, i) {
			continue
		}
		v, e := s.h.Cell(c.Slots[i])
		if e != api.OK {
			return api.FaultHeap
		}
		c.Slots[i] = v
	}
	s.calls = append(s.calls, c)
	s.told = append(s.told, event{what: "began", fun: f})
	return 0
}

// run goes through the innermost call, up to what it returns.
func (s *stroll) run() api.Value {
	c := s.calls[len(s.calls)-1]
	for {
		if v, over := s.guarded(c); over {
			s.calls = s.calls[:len(s.calls)-1]
			return v
		}
	}
}

// guarded does one instruction, and catches what a Try has.
func (s *stroll) guarded(c *api.View) (v api.Value, over bool) {
	place, deep := c.At, len(s.calls)
	defer func() {
		x := recover()
		if x == nil {
			return
		}
		what, is := x.(thrown)
		if !is {
			panic(x)
		}
		for _, t := range s.im.Funs[c.Fun].Tries {
			if place >= t.From && place < t.To {
				s.calls = s.calls[:deep]
				c.Stack = append(slices.Clone(c.Stack[:t.Depth]), api.Value(what))
				c.At = t.Target
				if s.hurt { // who handed the fault is told that the thread goes on
					s.hurt = false
					s.halt(api.Stop{})
				}
				return
			}
		}
		panic(x)
	}()
	i := s.im.Funs[c.Fun].Code[place]
	takes, _, _ := code.Effect(s.im, i)
	taken := slices.Clone(c.Stack[len(c.Stack)-takes:])
	c.Stack = slices.Clone(c.Stack[:len(c.Stack)-takes])
	c.At++
	s.done[code.Name(i.Op)]++
	if code.Name(i.Op) == "return" {
		return taken[0], true
	}
	s.do(c, i, taken)
	return 0, false
}

// do does an instruction, which was handed what it takes.
func (s *stroll) do(c *api.View, i api.Instr, l []api.Value) {
	var v api.Value
	var x int
	var e api.Errno
	switch code.Name(i.Op) {
	case "int":
		v = tag.Int(i.A)
	case "atom":
		v = api.Value(1 + 4*i.A)
	case "str":
		v, e = s.h.Str([]byte(s.im.Strs[i.A]))
	case "prim":
		v = api.Value(3 + 4*i.A)
	case "load":
		v = c.Slots[i.A]
	case "loadcell":
		v = s.inCell(c.Slots[i.A])
	case "loadcap":
		v = s.inCell(ownCell(c, i.A))
	case "loadglobal":
		v = s.globals[i.A]
	case "list":
		v, e = s.h.Arr(l)
	case "rec":
		var keys []string
		for _, k := range s.im.Keys[i.A] {
			keys = append(keys, s.im.Strs[k])
		}
		v, e = s.h.Rec(keys, l)
	case "fun":
		v, e = s.h.Fun(i.A, s.takenAlong(c, i.A))
	case "bin":
		s.told = append(s.told, event{what: "had", fun: c.Fun, at: c.At - 1, a: l[0], b: l[1]})
		v, x = prim.Bin(s.h, i.A, l[0], l[1])
	case "not":
		v = tag.Bool(l[0] == api.Nil || l[0] == api.False)
	case "neg":
		s.told = append(s.told, event{what: "had", fun: c.Fun, at: c.At - 1, a: l[0], b: l[0]})
		v, x = prim.Neg(s.h, l[0])
	case "index":
		v, x = prim.Index(s.h, l[0], l[1])
	case "field":
		v, x = prim.Field(s.h, l[0], s.im.Strs[i.A])
	case "call":
		s.call(c, l)
		return
	case "spawn":
		s.asksForThread(c, l)
		return
	default:
		s.doOther(c, i, l)
		return
	}
	if e == api.ErrLong {
		x = api.FaultLong
	} else if e != api.OK {
		x = api.FaultHeap
	}
	s.fail(x)
	c.Stack = append(c.Stack, v)
}

// doOther: what puts nothing.
func (s *stroll) doOther(c *api.View, i api.Instr, l []api.Value) {
	switch code.Name(i.Op) {
	case "pop":
	case "store":
		c.Slots[i.A] = l[0]
	case "box":
		v, e := s.h.Cell(c.Slots[i.A])
		if e != api.OK {
			s.fail(api.FaultHeap)
		}
		c.Slots[i.A] = v
	case "storecell":
		s.intoCell(c.Slots[i.A], l[0])
	case "storecap":
		s.intoCell(ownCell(c, i.A), l[0])
	case "storeglobal":
		s.globals[i.A] = l[0]
		s.told = append(s.told, event{what: "wrote", at: i.A, a: l[0]})
		s.halt(api.Stop{Kind: api.StopSafe})
	case "setindex":
		s.fail(prim.SetIndex(s.h, l[0], l[1], l[2]))
	case "setfield":
		s.fail(prim.SetField(s.h, l[0], s.im.Strs[i.A], l[1]))
	case "throw":
		panic(thrown(l[0]))
	case "loop":
		c.At = i.A
		s.told = append(s.told, event{what: "looped", fun: c.Fun})
		s.halt(api.Stop{Kind: api.StopSafe})
	case "jump":
		c.At = i.A
	case "false":
		if !tag.Truth(l[0]) {
			c.At = i.A
		}
	case "keepfalse", "keeptrue":
		if tag.Truth(l[0]) == (code.Name(i.Op) == "keeptrue") {
			c.At, c.Stack = i.A, append(c.Stack, l[0])
		}
	default:
		panic(i)
	}
}

// call ends with what it comes to on the stack of the one that calls.
func (s *stroll) call(c *api.View, l []api.Value) {
	if f, cells, ok := s.function(l[0]); ok {
		if s.im.Funs[f].Params != len(l)-1 {
			s.fail(api.FaultArgs)
		}
		s.fail(s.enter(f, cells, l[1:]))
		s.halt(api.Stop{Kind: api.StopSafe})
		c.Stack = append(c.Stack, s.run())
		s.halt(api.Stop{Kind: api.StopSafe})
		return
	}
	if tag.Kind(l[0]) != api.KindPrim {
		s.fail(api.FaultCall)
	}
	p, _ := tag.Index(l[0])
	if prim.Arity(p) != len(l)-1 {
		s.fail(api.FaultArgs)
	}
	switch {
	case p >= api.PrimYield:
		s.wait(api.Stop{Kind: api.StopPrim, Prim: p, Args: l[1:]})
		return
	case p == api.PrimPrint:
		text, e := show.Text(s.h, l[1])
		if e != api.OK {
			s.fail(api.FaultLong)
		}
		s.texts = append(s.texts, string(text))
		c.Stack = append(c.Stack, api.Nil)
		return
	}
	v, x := prim.Pure(s.h, p, l[1:])
	s.fail(x)
	c.Stack = append(c.Stack, v)
}

func (s *stroll) asksForThread(c *api.View, l []api.Value) {
	f, _, ok := s.function(l[0])
	if !ok {
		s.fail(api.FaultCall)
	}
	if s.im.Funs[f].Params != len(l)-1 {
		s.fail(api.FaultArgs)
	}
	s.wait(api.Stop{Kind: api.StopSpawn, Args: l})
}

// wait: what it was handed is on the stack then.
func (s *stroll) wait(x api.Stop) {
	s.halt(x)
	if s.wrong != 0 {
		s.hurt = true
		f := s.wrong
		s.wrong = 0
		s.fail(f)
	}
}

func (s *stroll) inCell(cell api.Value) api.Value {
	if s.h.Kind(cell) != api.ObjCell {
		s.fail(api.FaultType)
	}
	v, _ := s.h.At(cell, 0)
	return v
}

func (s *stroll) intoCell(cell, v api.Value) {
	if s.h.Kind(cell) != api.ObjCell {
		s.fail(api.FaultType)
	}
	s.h.Set(cell, 0, v)
}

// ownCell: one that is missing is no cell.
func ownCell(c *api.View, n int) api.Value {
	if n < len(c.Cells) {
		return c.Cells[n]
	}
	return api.Nil
}

func (s *stroll) takenAlong(c *api.View, f int) []api.Value {
	var l []api.Value
	for _, p := range s.im.Funs[f].Caps {
		if p.Own == 1 {
			l = append(l, c.Slots[p.N])
		} else {
			l = append(l, ownCell(c, p.N))
		}
	}
	return l
}
