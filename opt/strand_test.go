package opt

import (
	"fmt"

	"jacquard/api"
	"jacquard/code"
	"jacquard/heap"
	"jacquard/prim"
	"jacquard/show"
	"jacquard/tag"
)

// version is code that calls begin by, till what it counts on is written.
type version struct {
	code      *Code
	steps     []Step
	constants []api.Value
	ended     bool
}

// loom runs an image once more, functions with a version by their steps. (base.Machine is what it is held against.)
type loom struct {
	im       api.Image
	h        *heap.Heap
	globals  []api.Value
	texts    []string
	depth    int
	versions map[int]*version // by function: the valid ones
	did      map[string]int
}

func newLoom(im api.Image, most, depth int, did map[string]int) *loom {
	h, e := heap.New(most)
	if e != api.OK {
		panic(e)
	}
	m := &loom{im: im, h: h, depth: depth, versions: map[int]*version{}, did: did}
	for range im.Globals {
		m.globals = append(m.globals, api.Nil)
	}
	return m
}

func (m *loom) write(g int, v api.Value) {
	m.globals[g] = v
	for f, x := range m.versions {
		for _, d := range x.code.Deps() {
			if d.Global == g && d.Val != v {
				x.ended = true
			}
		}
		if x.ended {
			delete(m.versions, f)
		}
	}
}

func (m *loom) function(v api.Value) (f int, cells []api.Value, ok bool) {
	f, cells, e := m.h.FunOf(v)
	return f, cells, e == api.OK && f < len(m.im.Funs)
}

// turn is a call: an ordinary one, as its View has it, or one by steps.
type turn struct {
	api.View
	by     *version // nil: an ordinary one
	regs   []api.Value
	next   int
	last   int  // the step behind which it stands; -1: at the beginning
	handed bool // what that step puts has come
}

// strand is a thread.
type strand struct {
	*loom
	turns []*turn
	waits bool
	ended bool
	stop  api.Stop
}

func (m *loom) main() *strand {
	s := &strand{loom: m}
	s.enter(0, nil, nil)
	return s
}

func (m *loom) spawn(l []api.Value) (*strand, int) {
	f, cells, fault := m.callable(l)
	if fault != 0 {
		return nil, fault
	}
	s := &strand{loom: m}
	if fault := s.enter(f, cells, l[1:]); fault != 0 {
		return nil, fault
	}
	return s, 0
}

func (m *loom) callable(l []api.Value) (f int, cells []api.Value, fault int) {
	if len(l) == 0 {
		return 0, nil, api.FaultCall
	}
	f, cells, ok := m.function(l[0])
	switch {
	case !ok:
		return 0, nil, api.FaultCall
	case m.im.Funs[f].Params != len(l)-1:
		return 0, nil, api.FaultArgs
	}
	return f, cells, 0
}

func (s *strand) enter(f int, cells, args []api.Value) int {
	if len(s.calls()) >= s.depth {
		return api.FaultDepth
	}
	c := &turn{View: api.View{Fun: f, Cells: cells}, last: -1}
	for slot := range s.im.Funs[f].Slots {
		c.Slots = append(c.Slots, api.Nil)
		if slot < len(args) {
			c.Slots[slot] = args[slot]
		}
	}
	for _, slot := range s.im.Funs[f].Boxes {
		v, e := s.h.Cell(c.Slots[slot])
		if e != api.OK {
			return api.FaultHeap
		}
		c.Slots[slot] = v
	}
	if x := s.versions[f]; x != nil {
		s.did["entered"]++
		c.by = x
		c.regs = append(c.regs, c.Slots...)
		for len(c.regs) < x.code.Registers() {
			c.regs = append(c.regs, 13) // no value: nobody may take it
		}
	}
	s.turns = append(s.turns, c)
	return 0
}

// calls tells all that stand, those within others, too.
func (s *strand) calls() []api.View {
	var l []api.View
	for _, c := range s.turns {
		l = append(l, c.views(s.im)...)
	}
	return l
}

func (c *turn) views(im api.Image) []api.View {
	switch {
	case c.by == nil:
		return []api.View{c.View}
	case c.last < 0:
		return []api.View{{Fun: c.Fun, Slots: c.regs[:im.Funs[c.Fun].Slots], Cells: c.Cells}}
	}
	l := c.standing(im, c.by.code.Behind(c.last))
	if c.handed {
		in := &l[len(l)-1]
		in.Stack = append(in.Stack, c.regs[c.by.steps[c.last].To])
	}
	return l
}

func (c *turn) standing(im api.Image, calls []Call) []api.View {
	var l []api.View
	for i, x := range calls {
		v := api.View{Fun: x.Fun, At: x.At}
		v.Slots = append(v.Slots, c.regs[x.Slots:x.Slots+im.Funs[x.Fun].Slots]...)
		for _, source := range x.Stack {
			v.Stack = append(v.Stack, c.value(source))
		}
		if i == 0 {
			v.Cells = c.Cells
		}
		l = append(l, v)
	}
	return l
}

func (c *turn) value(source int) api.Value {
	if source < len(c.regs) {
		return c.regs[source]
	}
	return c.by.constants[source-len(c.regs)]
}

func (s *strand) inner() *turn { return s.turns[len(s.turns)-1] }

// leave makes ordinary calls of the innermost one.
func (s *strand) leave(why string, views []api.View) {
	s.did["left: "+why]++
	s.did[fmt.Sprint("left, calls: ", len(views))]++
	s.turns = s.turns[:len(s.turns)-1]
	for _, v := range views {
		s.turns = append(s.turns, &turn{View: v, last: -1})
	}
}

func (s *strand) segment() api.Stop {
	if s.ended || s.waits {
		return s.stop
	}
	for {
		c := s.inner()
		var x api.Stop
		switch {
		case c.by == nil:
			x = s.slow(c)
		case c.by.ended:
			s.leave("ended", c.views(s.im))
		default:
			x = s.fast(c)
		}
		if s.ended {
			return s.stop
		}
		if x.Kind != 0 {
			s.waits = x.Kind == api.StopPrim || x.Kind == api.StopSpawn
			s.stop = x
			return x
		}
	}
}

func (s *strand) end(x api.Stop) { s.turns, s.ended, s.waits, s.stop = nil, true, false, x }

func (s *strand) resume(v api.Value) {
	s.waits = false
	s.give(v)
}

func (s *strand) fault(f int) api.Stop {
	s.waits = false
	s.fail(f)
	if s.ended {
		return s.stop
	}
	return api.Stop{}
}

// give hands the innermost call what its last instruction puts.
func (s *strand) give(v api.Value) {
	c := s.inner()
	if c.by == nil {
		c.Stack = append(c.Stack, v)
		return
	}
	c.regs[c.by.steps[c.last].To] = v
	c.handed = true
}

func (s *strand) giveBack(v api.Value) api.Stop {
	s.turns = s.turns[:len(s.turns)-1]
	if len(s.turns) == 0 {
		s.end(api.Stop{Kind: api.StopDone, Value: v})
		return s.stop
	}
	s.give(v)
	return safe()
}

func safe() api.Stop { return api.Stop{Kind: api.StopSafe} }

func (s *strand) fail(f int) {
	v, ends := prim.Thrown(s.h, f)
	if ends != 0 {
		s.end(api.Stop{Kind: api.StopDead, Fault: ends})
		return
	}
	s.throw(v)
}

func (s *strand) throw(v api.Value) {
	for len(s.turns) > 0 {
		c := s.inner()
		if c.by != nil {
			s.leave("thrown", c.views(s.im))
			continue
		}
		for _, t := range s.im.Funs[c.Fun].Tries {
			if t.From < c.At && c.At <= t.To {
				c.Stack = append(c.Stack[:t.Depth:t.Depth], v)
				c.At = t.Target
				return
			}
		}
		s.turns = s.turns[:len(s.turns)-1]
	}
	s.end(api.Stop{Kind: api.StopThrown, Value: v})
}

// call calls the first value with the others.
func (s *strand) call(l []api.Value) api.Stop {
	if tag.Kind(l[0]) == api.KindPrim {
		p, _ := tag.Index(l[0])
		return s.callPrim(p, l[1:])
	}
	f, cells, fault := s.callable(l)
	if fault == 0 {
		fault = s.enter(f, cells, l[1:])
	}
	if fault != 0 {
		s.fail(fault)
		return api.Stop{}
	}
	return safe()
}

func (s *strand) callPrim(p int, args []api.Value) api.Stop {
	switch {
	case len(args) != prim.Arity(p):
		s.fail(api.FaultArgs)
		return api.Stop{}
	case p >= api.PrimYield:
		return api.Stop{Kind: api.StopPrim, Prim: p, Args: args}
	case p == api.PrimPrint:
		text, e := show.Text(s.h, args[0])
		if e != api.OK {
			s.fail(api.FaultLong)
			return api.Stop{}
		}
		s.texts = append(s.texts, string(text))
		s.give(api.Nil)
		return api.Stop{}
	}
	v, fault := prim.Pure(s.h, p, args)
	if fault != 0 {
		s.fail(fault)
		return api.Stop{}
	}
	s.give(v)
	return api.Stop{}
}

func (s *strand) askThread(l []api.Value) api.Stop {
	if _, _, fault := s.callable(l); fault != 0 {
		s.fail(fault)
		return api.Stop{}
	}
	return api.Stop{Kind: api.StopSpawn, Args: l}
}

// slow does an instruction of an ordinary call.
func (s *strand) slow(c *turn) api.Stop {
	i := s.im.Funs[c.Fun].Code[c.At]
	takes, puts, _ := code.Effect(s.im, i)
	rest := len(c.Stack) - takes
	l := append([]api.Value(nil), c.Stack[rest:]...)
	c.Stack = c.Stack[:rest:rest]
	c.At++
	s.did["slow "+code.Name(i.Op)]++
	switch i.Op {
	case api.OpInt:
		c.Stack = append(c.Stack, tag.Int(i.A))
	case api.OpAtom:
		c.Stack = append(c.Stack, api.Value(1+4*i.A))
	case api.OpPrim:
		c.Stack = append(c.Stack, api.Value(3+4*i.A))
	case api.OpLoad:
		c.Stack = append(c.Stack, c.Slots[i.A])
	case api.OpPop:
	case api.OpStore:
		c.Slots[i.A] = l[0]
	case api.OpJump:
		c.At = i.A
	case api.OpFalse:
		if !tag.Truth(l[0]) {
			c.At = i.A
		}
	case api.OpKeepFalse, api.OpKeepTrue:
		if tag.Truth(l[0]) == (i.Op == api.OpKeepTrue) {
			c.At, c.Stack = i.A, append(c.Stack, l[0])
		}
	case api.OpLoop:
		c.At = i.A
		return safe()
	case api.OpStoreGlobal:
		s.write(i.A, l[0])
		return safe()
	case api.OpCall:
		return s.call(l)
	case api.OpSpawn:
		return s.askThread(l)
	case api.OpReturn:
		return s.giveBack(l[0])
	case api.OpThrow:
		s.throw(l[0])
	default:
		v, fault := s.effect(i.Op, i.A, append(s.slotsOf(c, i), l...), c.Cells)
		switch {
		case fault != 0:
			s.fail(fault)
		case i.Op == api.OpBox:
			c.Slots[i.A] = v
		case puts > 0:
			c.Stack = append(c.Stack, v)
		}
	}
	return api.Stop{}
}

func (s *strand) slotsOf(c *turn, i api.Instr) []api.Value {
	var l []api.Value
	switch i.Op {
	case api.OpBox, api.OpLoadCell, api.OpStoreCell:
		l = append(l, c.Slots[i.A])
	case api.OpFun:
		for _, x := range s.im.Funs[i.A].Caps {
			if x.Own == 1 {
				l = append(l, c.Slots[x.N])
			}
		}
	}
	return l
}

// fast does a step.
func (s *strand) fast(c *turn) api.Stop {
	n := c.next
	x := c.by.steps[n]
	var l []api.Value
	for _, source := range x.From {
		v := c.value(source)
		if tag.Kind(v) == api.KindNone {
			panic(fmt.Sprint("step ", n, " takes what is not there: ", c.by.steps))
		}
		l = append(l, v)
	}
	stand := func() { c.last, c.handed = n, false }
	c.next++
	s.did["fast "+stepName(x.Op)]++
	switch x.Op {
	case StepMove:
		c.regs[x.To] = l[0]
	case api.OpJump:
		c.next = x.Next
	case api.OpFalse, StepTrue:
		if tag.Truth(l[0]) == (x.Op == StepTrue) {
			c.next = x.Next
		}
	case api.OpLoop:
		stand()
		c.next = x.Next
		return safe()
	case api.OpStoreGlobal:
		stand()
		s.write(x.A, l[0])
		return safe()
	case api.OpCall:
		stand()
		return s.call(l)
	case StepPrim:
		stand()
		return s.callPrim(x.A, l)
	case api.OpSpawn:
		stand()
		return s.askThread(l)
	case api.OpReturn:
		return s.giveBack(l[0])
	case api.OpThrow:
		stand()
		s.throw(l[0])
	case StepEnter:
		stand()
		if len(s.calls()) > s.depth {
			s.fail(api.FaultDepth)
			return api.Stop{}
		}
		s.did[fmt.Sprint("within ", len(c.by.code.Behind(n))-1)]++
		return safe()
	case StepBack:
		c.regs[x.To] = l[0]
		stand()
		c.next = x.Next
		return safe()
	default:
		s.reckon(c, n, x, l)
	}
	return api.Stop{}
}

// reckon does a step that makes something, or counts on numbers.
func (s *strand) reckon(c *turn, n int, x Step, l []api.Value) {
	op := x.Op
	if op == StepNum || op == StepMinus {
		op = map[int]int{StepNum: api.OpBin, StepMinus: api.OpNeg}[op]
		for _, v := range l {
			if tag.Kind(v) != api.KindInt {
				s.leave("guard", c.standing(s.im, c.by.code.Ahead(n)))
				return
			}
		}
	}
	v, fault := s.effect(op, x.A, l, c.Cells)
	switch {
	case fault != 0:
		c.last, c.handed = n, false
		s.fail(fault)
	case x.To >= 0:
		c.regs[x.To] = v
	}
}

func stepName(op int) string {
	if op < api.Ops {
		return code.Name(op)
	}
	return []string{"Move", "True", "Num", "Minus", "Prim", "Enter", "Back"}[op-api.Ops]
}

// effect does what concerns no other calls; the slots that an instruction has to do with stand ahead of what it takes.
func (s *strand) effect(op, a int, l, cells []api.Value) (v api.Value, fault int) {
	var e api.Errno
	switch op {
	case api.OpStr:
		v, e = s.h.Str([]byte(s.im.Strs[a]))
	case api.OpBox:
		v, e = s.h.Cell(l[0])
	case api.OpLoadCell:
		return s.inCell(l[0])
	case api.OpStoreCell:
		return 0, s.intoCell(l[0], l[1])
	case api.OpLoadCap:
		return s.inCell(ownCell(cells, a))
	case api.OpStoreCap:
		return 0, s.intoCell(ownCell(cells, a), l[0])
	case api.OpLoadGlobal:
		v = s.globals[a]
	case api.OpList:
		v, e = s.h.Arr(l)
	case api.OpRec:
		var keys []string
		for _, k := range s.im.Keys[a] {
			keys = append(keys, s.im.Strs[k])
		}
		v, e = s.h.Rec(keys, l)
	case api.OpFun:
		var taken []api.Value
		for _, c := range s.im.Funs[a].Caps {
			if c.Own == 1 {
				taken, l = append(taken, l[0]), l[1:]
			} else {
				taken = append(taken, ownCell(cells, c.N))
			}
		}
		v, e = s.h.Fun(a, taken)
	case api.OpBin:
		return prim.Bin(s.h, a, l[0], l[1])
	case api.OpNot:
		v = prim.Not(l[0])
	case api.OpNeg:
		return prim.Neg(s.h, l[0])
	case api.OpIndex:
		return prim.Index(s.h, l[0], l[1])
	case api.OpSetIndex:
		return 0, prim.SetIndex(s.h, l[0], l[1], l[2])
	case api.OpField:
		return prim.Field(s.h, l[0], s.im.Strs[a])
	case api.OpSetField:
		return 0, prim.SetField(s.h, l[0], s.im.Strs[a], l[1])
	default:
		panic(op)
	}
	if e == api.ErrLong {
		return 0, api.FaultLong
	} else if e != api.OK {
		return 0, api.FaultHeap
	}
	return v, 0
}

func (s *strand) inCell(cell api.Value) (api.Value, int) {
	if s.h.Kind(cell) != api.ObjCell {
		return 0, api.FaultType
	}
	v, _ := s.h.At(cell, 0)
	return v, 0
}

func (s *strand) intoCell(cell, v api.Value) int {
	if s.h.Kind(cell) != api.ObjCell {
		return api.FaultType
	}
	s.h.Set(cell, 0, v)
	return 0
}

func ownCell(cells []api.Value, n int) api.Value {
	if n < len(cells) {
		return cells[n]
	}
	return api.Nil
}
