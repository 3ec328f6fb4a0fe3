package gen

import (
	"fmt"

	"jacquard/api"
	"jacquard/heap"
	"jacquard/prim"
	"jacquard/show"
	"jacquard/tag"
	"jacquard/verify"
)

// running is a program that runs, by its image or by its nodes.
type running interface {
	objects() *heap.Heap
	world() *shared
	// start: a thread that calls the first value with the others, or, of none, function 0; or a fault.
	start(l []api.Value) (thread, int)
}

// thread is one of a program that runs.
type thread interface {
	segment() api.Stop
	resume(v api.Value)
	fault(f int) api.Stop // of Kind 0, if it goes on
	leave()
}

// shared is what all threads have to do with.
type shared struct {
	h     *heap.Heap
	vars  []api.Value
	texts []string
	depth int
}

func newShared(most, depth, globals int) *shared {
	h, e := heap.New(most)
	if e != api.OK {
		panic(e)
	}
	s := &shared{h: h, depth: depth, vars: make([]api.Value, globals)}
	for i := range s.vars {
		s.vars[i] = api.Nil
	}
	return s
}

func (s *shared) objects() *heap.Heap { return s.h }

func (s *shared) world() *shared { return s }

func faultOf(e api.Errno) int {
	switch e {
	case api.OK:
		return api.FaultNone
	case api.ErrLong:
		return api.FaultLong
	case api.ErrMany:
		return api.FaultHeap
	}
	panic(fmt.Sprint("error ", e))
}

// atOnce is what a primitive up to kind tells.
func (s *shared) atOnce(p int, args []api.Value) (api.Value, int) {
	if p != api.PrimPrint {
		return prim.Pure(s.h, p, args)
	}
	if len(args) != 1 {
		return 0, api.FaultArgs
	}
	text, e := show.Text(s.h, args[0])
	if e != api.OK {
		return 0, faultOf(e)
	}
	s.texts = append(s.texts, string(text))
	return api.Nil, api.FaultNone
}

// machine runs an image, as P10.1, P10.2 and P12.1 have it.
type machine struct {
	*shared
	im      api.Image
	heights [][]int
}

func newMachine(im api.Image, most, depth int) *machine {
	m := &machine{shared: newShared(most, depth, im.Globals), im: im}
	for f := range im.Funs {
		h, e := verify.Heights(im, f)
		if e != api.OK {
			panic(e)
		}
		m.heights = append(m.heights, h)
	}
	return m
}

func (m *machine) start(l []api.Value) (thread, int) {
	r := &runner{machine: m}
	number, cells := 0, []api.Value(nil)
	if len(l) > 0 {
		number, cells, _ = m.h.FunOf(l[0])
		l = l[1:]
	}
	if f := r.enter(number, cells, l); f != 0 {
		return nil, f
	}
	return r, 0
}

// frame is a call; at is the instruction that it is in.
type frame struct {
	fun, at             int
	slots, stack, cells []api.Value
}

func (f *frame) push(v api.Value) { f.stack = append(f.stack, v) }

func (f *frame) pop(n int) []api.Value {
	l := append([]api.Value(nil), f.stack[len(f.stack)-n:]...)
	f.stack = f.stack[:len(f.stack)-n]
	return l
}

type runner struct {
	*machine
	frames []*frame
}

func (r *runner) leave() {}

func (r *runner) top() *frame { return r.frames[len(r.frames)-1] }

func (r *runner) enter(number int, cells, args []api.Value) int {
	if len(r.frames) == r.depth {
		return api.FaultDepth
	}
	c := r.im.Funs[number]
	f := &frame{fun: number, cells: cells, slots: make([]api.Value, c.Slots)}
	for i := range f.slots {
		f.slots[i] = api.Nil
	}
	copy(f.slots, args)
	for _, b := range c.Boxes {
		v, e := r.h.Cell(f.slots[b])
		if e != api.OK {
			return faultOf(e)
		}
		f.slots[b] = v
	}
	r.frames = append(r.frames, f)
	return 0
}

func (r *runner) segment() api.Stop {
	for {
		f := r.top()
		if want := r.heights[f.fun][f.at]; want != len(f.stack) {
			panic(fmt.Sprintf("function %d at %d: %d on the stack, not %d", f.fun, f.at, len(f.stack), want))
		}
		i := r.im.Funs[f.fun].Code[f.at]
		if s := r.control(f, i); s.Kind != 0 {
			return s
		}
	}
}

func (r *runner) resume(v api.Value) {
	r.top().push(v)
	r.top().at++
}

func (r *runner) fault(f int) api.Stop {
	v, f := prim.Thrown(r.h, f)
	if f != 0 {
		return api.Stop{Kind: api.StopDead, Fault: f}
	}
	return r.throw(v)
}

func (r *runner) throw(v api.Value) api.Stop {
	for len(r.frames) > 0 {
		f := r.top()
		for _, t := range r.im.Funs[f.fun].Tries {
			if t.From <= f.at && f.at < t.To {
				f.stack = append(f.stack[:t.Depth:t.Depth], v)
				f.at = t.Target
				return api.Stop{}
			}
		}
		r.frames = r.frames[:len(r.frames)-1]
	}
	return api.Stop{Kind: api.StopThrown, Value: v}
}

// control does an instruction that has to do with where it goes on; all others go on at the next one.
func (r *runner) control(f *frame, i api.Instr) api.Stop {
	safe := api.Stop{Kind: api.StopSafe}
	switch i.Op {
	case api.OpJump:
		f.at = i.A
	case api.OpLoop:
		f.at = i.A
		return safe
	case api.OpFalse, api.OpKeepFalse, api.OpKeepTrue:
		v := f.pop(1)[0]
		if tag.Truth(v) != (i.Op == api.OpKeepTrue) {
			f.at++
			break
		}
		f.at = i.A
		if i.Op != api.OpFalse {
			f.push(v)
		}
	case api.OpReturn:
		v := f.pop(1)[0]
		r.frames = r.frames[:len(r.frames)-1]
		if len(r.frames) == 0 {
			return api.Stop{Kind: api.StopDone, Value: v}
		}
		r.resume(v)
		return safe
	case api.OpThrow:
		return r.throw(f.pop(1)[0])
	case api.OpCall, api.OpSpawn:
		return r.call(f, i)
	case api.OpStoreGlobal:
		r.vars[i.A] = f.pop(1)[0]
		f.at++
		return safe
	default:
		if x := r.plain(f, i); x != 0 {
			return r.fault(x)
		}
		f.at++
	}
	return api.Stop{}
}

func (r *runner) call(f *frame, i api.Instr) api.Stop {
	args := f.pop(i.A + 1)
	if number, cells, e := r.h.FunOf(args[0]); e == api.OK {
		switch {
		case len(args)-1 != r.im.Funs[number].Params:
			return r.fault(api.FaultArgs)
		case i.Op == api.OpSpawn:
			return api.Stop{Kind: api.StopSpawn, Args: args}
		}
		if x := r.enter(number, cells, args[1:]); x != 0 {
			return r.fault(x)
		}
		return api.Stop{Kind: api.StopSafe}
	}
	p, _ := tag.Index(args[0])
	switch {
	case tag.Kind(args[0]) != api.KindPrim || i.Op == api.OpSpawn:
		return r.fault(api.FaultCall)
	case len(args)-1 != prim.Arity(p):
		return r.fault(api.FaultArgs)
	case p >= api.PrimYield:
		return api.Stop{Kind: api.StopPrim, Prim: p, Args: args[1:]}
	}
	v, x := r.atOnce(p, args[1:])
	if x != 0 {
		return r.fault(x)
	}
	r.resume(v)
	return api.Stop{}
}

// plain does an instruction, and tells a fault.
func (r *runner) plain(f *frame, i api.Instr) int {
	var v api.Value
	var x int
	var e api.Errno
	switch i.Op {
	case api.OpInt:
		v = tag.Int(i.A)
	case api.OpAtom:
		v = []api.Value{api.Nil, api.False, api.True}[i.A]
	case api.OpStr:
		v, e = r.h.Str([]byte(r.im.Strs[i.A]))
	case api.OpPrim:
		v, e = tag.Prim(i.A)
	case api.OpLoad:
		v = f.slots[i.A]
	case api.OpLoadCell:
		v, x = r.inCell(f.slots[i.A])
	case api.OpLoadCap:
		v, x = r.inCell(f.cells[i.A])
	case api.OpLoadGlobal:
		v = r.vars[i.A]
	case api.OpList:
		v, e = r.h.Arr(f.pop(i.A))
	case api.OpRec:
		var keys []string
		for _, k := range r.im.Keys[i.A] {
			keys = append(keys, r.im.Strs[k])
		}
		v, e = r.h.Rec(keys, f.pop(len(keys)))
	case api.OpFun:
		v, e = r.h.Fun(i.A, r.cellsFor(f, i.A))
	case api.OpBin:
		l := f.pop(2)
		v, x = prim.Bin(r.h, i.A, l[0], l[1])
	case api.OpNot:
		v = prim.Not(f.pop(1)[0])
	case api.OpNeg:
		v, x = prim.Neg(r.h, f.pop(1)[0])
	case api.OpIndex:
		l := f.pop(2)
		v, x = prim.Index(r.h, l[0], l[1])
	case api.OpField:
		v, x = prim.Field(r.h, f.pop(1)[0], r.im.Strs[i.A])
	default:
		return r.write(f, i)
	}
	if e != api.OK {
		x = faultOf(e)
	}
	if x == 0 {
		f.push(v)
	}
	return x
}

// write does an instruction that puts nothing.
func (r *runner) write(f *frame, i api.Instr) int {
	switch i.Op {
	case api.OpPop:
		f.pop(1)
	case api.OpStore:
		f.slots[i.A] = f.pop(1)[0]
	case api.OpBox:
		v, e := r.h.Cell(f.slots[i.A])
		if e != api.OK {
			return faultOf(e)
		}
		f.slots[i.A] = v
	case api.OpStoreCell:
		return r.intoCell(f.slots[i.A], f.pop(1)[0])
	case api.OpStoreCap:
		return r.intoCell(f.cells[i.A], f.pop(1)[0])
	case api.OpSetIndex:
		l := f.pop(3)
		return prim.SetIndex(r.h, l[0], l[1], l[2])
	case api.OpSetField:
		l := f.pop(2)
		return prim.SetField(r.h, l[0], r.im.Strs[i.A], l[1])
	}
	return 0
}

// inCell: a slot that has no cell where one is asked is a fault of the image that no program has.
func (r *runner) inCell(c api.Value) (api.Value, int) {
	if r.h.Kind(c) != api.ObjCell {
		panic("no cell")
	}
	v, _ := r.h.At(c, 0)
	return v, 0
}

func (r *runner) intoCell(c, v api.Value) int {
	if r.h.Kind(c) != api.ObjCell {
		panic("no cell")
	}
	r.h.Set(c, 0, v)
	return 0
}

func (r *runner) cellsFor(f *frame, number int) []api.Value {
	var cells []api.Value
	for _, c := range r.im.Funs[number].Caps {
		v := f.cells
		if c.Own == 1 {
			v = f.slots
		}
		if r.h.Kind(v[c.N]) != api.ObjCell {
			panic("no cell to take")
		}
		cells = append(cells, v[c.N])
	}
	return cells
}
