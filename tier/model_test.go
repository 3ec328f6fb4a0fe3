package tier

import (
	"jacquard/api"
	"jacquard/code"
	"jacquard/heap"
	"jacquard/prim"
	"jacquard/show"
	"jacquard/tag"
)

// model runs an image once more, instruction by instruction, and keeps which calls run by which versions by the chapter's words alone: what such a call does is what any other one does.
type model struct {
	im       api.Image
	h        *heap.Heap
	globals  []api.Value
	texts    []string
	depth    int
	heat     []int // by function
	writes   []int // by global
	versions []modelVersion
	changes  []api.Change
	did      map[string]int
}

type modelVersion struct {
	fun   int
	on    []api.Dep
	ended bool
}

func newModel(im api.Image, most, depth int, did map[string]int) *model {
	h, e := heap.New(most)
	if e != api.OK {
		panic(e)
	}
	m := &model{im: im, h: h, depth: depth, did: did, heat: make([]int, len(im.Funs)), writes: make([]int, im.Globals)}
	for range im.Globals {
		m.globals = append(m.globals, api.Nil)
	}
	return m
}

func (m *model) tell(kind, id int, why string) {
	m.changes = append(m.changes, api.Change{Kind: kind, Id: id, Fun: m.versions[id].fun})
	m.did[why]++
}

// valid is a function's version that has not ended; none: there is none.
func (m *model) valid(f int) int {
	for id, v := range m.versions {
		if v.fun == f && !v.ended {
			return id
		}
	}
	return none
}

func (m *model) had(f int) int {
	n := 0
	for _, v := range m.versions {
		if v.fun == f {
			n++
		}
	}
	return n
}

func (m *model) made(f int, on []api.Dep) {
	m.versions = append(m.versions, modelVersion{fun: f, on: on})
	m.tell(api.TierMade, len(m.versions)-1, "made")
}

func (m *model) write(g int, v api.Value) {
	m.globals[g] = v
	m.writes[g]++
	for id := range m.versions {
		x := &m.versions[id]
		for _, d := range x.on {
			if d.Global == g && d.Val != v && !x.ended {
				x.ended = true
				m.tell(api.TierEnded, id, "ended")
			}
		}
	}
}

func (m *model) function(v api.Value) (f int, cells []api.Value, ok bool) {
	f, cells, e := m.h.FunOf(v)
	return f, cells, e == api.OK && f < len(m.im.Funs)
}

// turn is a call.
type turn struct {
	api.View
	by int // the version that it runs by; none: it is an ordinary one
}

// strand is a thread.
type strand struct {
	*model
	turns []*turn
	waits bool
	ended bool
	stop  api.Stop
}

func (m *model) main() *strand {
	s := &strand{model: m}
	s.enter(0, nil, nil)
	return s
}

func (m *model) spawn(l []api.Value) (*strand, int) {
	f, cells, fault := m.callable(l)
	if fault != 0 {
		return nil, fault
	}
	s := &strand{model: m}
	if fault := s.enter(f, cells, l[1:]); fault != 0 {
		return nil, fault
	}
	return s, 0
}

func (m *model) callable(l []api.Value) (f int, cells []api.Value, fault int) {
	if len(l) == 0 {
		return 0, nil, api.FaultCall
	}
	f, cells, ok := m.function(l[0])
	switch {
	case !ok:
		return 0, nil, api.FaultCall
	case m.im.Funs[f].Params != len(l)-1:
		return 0, nil, api.FaultArgs
	}
	return f, cells, 0
}

func (s *strand) enter(f int, cells, args []api.Value) int {
	if len(s.turns) >= s.depth {
		return api.FaultDepth
	}
	c := &turn{View: api.View{Fun: f, Cells: cells}, by: s.valid(f)}
	for slot := range s.im.Funs[f].Slots {
		c.Slots = append(c.Slots, api.Nil)
		if slot < len(args) {
			c.Slots[slot] = args[slot]
		}
	}
	for _, slot := range s.im.Funs[f].Boxes {
		v, e := s.h.Cell(c.Slots[slot])
		if e != api.OK {
			return api.FaultHeap
		}
		c.Slots[slot] = v
	}
	s.turns = append(s.turns, c)
	s.heat[f]++
	if c.by != none {
		s.tell(api.TierEntered, c.by, "entered")
	}
	return 0
}

func (s *strand) inner() *turn { return s.turns[len(s.turns)-1] }

func (s *strand) calls() []api.View {
	var l []api.View
	for _, c := range s.turns {
		l = append(l, c.View)
	}
	return l
}

// leave: a call goes on as an ordinary one.
func (s *strand) leave(c *turn, why string) {
	if c.by != none {
		s.tell(api.TierLeft, c.by, "left: "+why)
		c.by = none
	}
}

// leaveEnded: likewise, if its version has ended.
func (s *strand) leaveEnded(c *turn, why string) {
	if c.by != none && s.versions[c.by].ended {
		s.leave(c, why)
	}
}

func (s *strand) segment() api.Stop {
	if s.ended || s.waits {
		return s.stop
	}
	for {
		c := s.inner()
		s.leaveEnded(c, "goes on")
		x := s.do(c)
		if s.ended {
			return s.stop
		}
		if x.Kind != 0 {
			s.waits = x.Kind == api.StopPrim || x.Kind == api.StopSpawn
			s.stop = x
			return x
		}
	}
}

func (s *strand) end(x api.Stop) { s.turns, s.ended, s.waits, s.stop = nil, true, false, x }

func (s *strand) give(v api.Value) { s.inner().Stack = append(s.inner().Stack, v) }

func (s *strand) resume(v api.Value) {
	s.waits = false
	s.give(v)
}

func (s *strand) fault(f int) api.Stop {
	s.waits = false
	s.fail(f)
	if s.ended {
		return s.stop
	}
	return api.Stop{}
}

func (s *strand) giveBack(v api.Value) api.Stop {
	s.turns = s.turns[:len(s.turns)-1]
	if len(s.turns) == 0 {
		s.end(api.Stop{Kind: api.StopDone, Value: v})
		return s.stop
	}
	s.give(v)
	s.leaveEnded(s.inner(), "returned into")
	return safe()
}

func safe() api.Stop { return api.Stop{Kind: api.StopSafe} }

// fail throws a fault, or ends the thread; 0 is none.
func (s *strand) fail(f int) {
	if f == 0 {
		return
	}
	v, ends := prim.Thrown(s.h, f)
	if ends != 0 {
		s.end(api.Stop{Kind: api.StopDead, Fault: ends})
		return
	}
	s.throw(v)
}

func (s *strand) throw(v api.Value) {
	for len(s.turns) > 0 {
		c := s.inner()
		s.leave(c, "thrown")
		for _, t := range s.im.Funs[c.Fun].Tries {
			if t.From < c.At && c.At <= t.To {
				c.Stack = append(c.Stack[:t.Depth:t.Depth], v)
				c.At = t.Target
				return
			}
		}
		s.turns = s.turns[:len(s.turns)-1]
	}
	s.end(api.Stop{Kind: api.StopThrown, Value: v})
}

// call calls the first value with the others.
func (s *strand) call(l []api.Value) api.Stop {
	if tag.Kind(l[0]) == api.KindPrim {
		p, _ := tag.Index(l[0])
		return s.callPrim(p, l[1:])
	}
	f, cells, fault := s.callable(l)
	if fault == 0 {
		fault = s.enter(f, cells, l[1:])
	}
	s.fail(fault)
	if fault != 0 {
		return api.Stop{}
	}
	return safe()
}

func (s *strand) callPrim(p int, args []api.Value) api.Stop {
	v, fault := api.Nil, 0
	switch {
	case len(args) != prim.Arity(p):
		fault = api.FaultArgs
	case p >= api.PrimYield:
		return api.Stop{Kind: api.StopPrim, Prim: p, Args: args}
	case p == api.PrimPrint:
		text, e := show.Text(s.h, args[0])
		if e != api.OK {
			fault = api.FaultLong
		} else {
			s.texts = append(s.texts, string(text))
		}
	default:
		v, fault = prim.Pure(s.h, p, args)
	}
	s.fail(fault)
	if fault == 0 {
		s.give(v)
	}
	return api.Stop{}
}

// do does an instruction.
func (s *strand) do(c *turn) api.Stop {
	i := s.im.Funs[c.Fun].Code[c.At]
	takes, puts, _ := code.Effect(s.im, i)
	rest := len(c.Stack) - takes
	l := append([]api.Value(nil), c.Stack[rest:]...)
	c.Stack = c.Stack[:rest:rest]
	c.At++
	s.did[code.Name(i.Op)]++
	switch i.Op {
	case api.OpPop:
	case api.OpStore:
		c.Slots[i.A] = l[0]
	case api.OpJump:
		c.At = i.A
	case api.OpFalse:
		if !tag.Truth(l[0]) {
			c.At = i.A
		}
	case api.OpKeepFalse, api.OpKeepTrue:
		if tag.Truth(l[0]) == (i.Op == api.OpKeepTrue) {
			c.At, c.Stack = i.A, append(c.Stack, l[0])
		}
	case api.OpLoop:
		c.At = i.A
		s.heat[c.Fun]++
		return safe()
	case api.OpStoreGlobal:
		s.write(i.A, l[0])
		return safe()
	case api.OpCall:
		return s.call(l)
	case api.OpSpawn:
		if _, _, fault := s.callable(l); fault != 0 {
			s.fail(fault)
			return api.Stop{}
		}
		return api.Stop{Kind: api.StopSpawn, Args: l}
	case api.OpReturn:
		return s.giveBack(l[0])
	case api.OpThrow:
		s.throw(l[0])
	default:
		v, fault := s.effect(c, i, l)
		s.fail(fault)
		if fault == 0 && i.Op == api.OpBox {
			c.Slots[i.A] = v
		} else if fault == 0 && puts > 0 {
			c.Stack = append(c.Stack, v)
		}
	}
	return api.Stop{}
}

// effect does what concerns no other calls.
func (s *strand) effect(c *turn, i api.Instr, l []api.Value) (v api.Value, fault int) {
	var e api.Errno
	switch i.Op {
	case api.OpInt:
		v = tag.Int(i.A)
	case api.OpAtom:
		v = api.Value(1 + 4*i.A)
	case api.OpPrim:
		v = api.Value(3 + 4*i.A)
	case api.OpLoad:
		v = c.Slots[i.A]
	case api.OpLoadGlobal:
		v = s.globals[i.A]
	case api.OpNot:
		v = prim.Not(l[0])
	case api.OpStr:
		v, e = s.h.Str([]byte(s.im.Strs[i.A]))
	case api.OpBox:
		v, e = s.h.Cell(c.Slots[i.A])
	case api.OpList:
		v, e = s.h.Arr(l)
	case api.OpRec:
		var keys []string
		for _, k := range s.im.Keys[i.A] {
			keys = append(keys, s.im.Strs[k])
		}
		v, e = s.h.Rec(keys, l)
	case api.OpFun:
		var taken []api.Value
		for _, p := range s.im.Funs[i.A].Caps {
			if p.Own == 1 {
				taken = append(taken, c.Slots[p.N])
			} else {
				taken = append(taken, ownCell(c.Cells, p.N))
			}
		}
		v, e = s.h.Fun(i.A, taken)
	default:
		return s.reckon(c, i, l)
	}
	if e == api.ErrLong {
		return 0, api.FaultLong
	} else if e != api.OK {
		return 0, api.FaultHeap
	}
	return v, 0
}

func (s *strand) reckon(c *turn, i api.Instr, l []api.Value) (v api.Value, fault int) {
	switch i.Op {
	case api.OpLoadCell:
		return s.inCell(c.Slots[i.A])
	case api.OpStoreCell:
		return 0, s.intoCell(c.Slots[i.A], l[0])
	case api.OpLoadCap:
		return s.inCell(ownCell(c.Cells, i.A))
	case api.OpStoreCap:
		return 0, s.intoCell(ownCell(c.Cells, i.A), l[0])
	case api.OpBin:
		return prim.Bin(s.h, i.A, l[0], l[1])
	case api.OpNeg:
		return prim.Neg(s.h, l[0])
	case api.OpIndex:
		return prim.Index(s.h, l[0], l[1])
	case api.OpSetIndex:
		return 0, prim.SetIndex(s.h, l[0], l[1], l[2])
	case api.OpField:
		return prim.Field(s.h, l[0], s.im.Strs[i.A])
	case api.OpSetField:
		return 0, prim.SetField(s.h, l[0], s.im.Strs[i.A], l[1])
	}
	panic(i)
}

func (s *strand) inCell(cell api.Value) (api.Value, int) {
	if s.h.Kind(cell) != api.ObjCell {
		return 0, api.FaultType
	}
	v, _ := s.h.At(cell, 0)
	return v, 0
}

func (s *strand) intoCell(cell, v api.Value) int {
	if s.h.Kind(cell) != api.ObjCell {
		return api.FaultType
	}
	s.h.Set(cell, 0, v)
	return 0
}

func ownCell(cells []api.Value, n int) api.Value {
	if n < len(cells) {
		return cells[n]
	}
	return api.Nil
}
