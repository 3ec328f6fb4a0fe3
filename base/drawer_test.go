package base

import (
	"math/rand"

	"jacquard/api"
	"jacquard/prim"
)

// drawer draws images that can be run, statement by statement; most calls are of what can be called, with as many values as that takes.
type drawer struct {
	*rand.Rand
	im     api.Image
	c      *api.Code
	height int
	low    int // the Depth of the Try about, which no height goes below
}

func (d *drawer) put(op, a int) int {
	d.c.Code = append(d.c.Code, api.Instr{Op: op, A: a})
	return len(d.c.Code) - 1
}

// lead makes the instruction at a place go on here.
func (d *drawer) lead(from int) { d.c.Code[from].A = len(d.c.Code) }

// makes is a function that this one can make.
func (d *drawer) makes() (int, bool) {
	f := 1 + d.Intn(len(d.im.Funs)-1)
	for _, p := range d.im.Funs[f].Caps {
		if p.Own == 0 && p.N >= len(d.c.Caps) || p.Own == 1 && p.N >= d.c.Slots {
			return 0, false
		}
	}
	return f, true
}

// leaf puts one.
func (d *drawer) leaf() {
	if len(d.c.Caps) > 0 && d.Intn(5) == 0 {
		d.put(api.OpLoadCap, d.Intn(len(d.c.Caps)))
		return
	}
	switch d.Intn(12) {
	case 0:
		d.put(api.OpAtom, d.Intn(3))
	case 1:
		d.put(api.OpStr, d.Intn(len(d.im.Strs)))
	case 2:
		d.put(api.OpPrim, d.Intn(api.Prims))
	case 3, 4:
		d.put(api.OpLoad, d.Intn(d.c.Slots))
	case 5:
		d.put(api.OpLoadCell, d.Intn(d.c.Slots))
	case 6, 7:
		d.put(api.OpLoadGlobal, d.Intn(d.im.Globals))
	case 8:
		if f, is := d.makes(); is {
			d.put(api.OpFun, f)
			return
		}
		fallthrough
	default:
		d.put(api.OpInt, d.Intn(8)-3)
	}
}

// expressions puts so many.
func (d *drawer) expressions(n, deep int) {
	for range n {
		d.expression(deep - 1)
		d.height++
	}
	d.height -= n
}

func (d *drawer) expression(deep int) {
	if deep <= 0 {
		d.leaf()
		return
	}
	switch d.Intn(11) {
	case 0, 1:
		d.expressions(2, deep)
		d.put(api.OpBin, d.Intn(11))
	case 2:
		d.expressions(1, deep)
		d.put([]int{api.OpNot, api.OpNeg}[d.Intn(2)], 0)
	case 3:
		d.expressions(1, deep)
		d.put(api.OpField, d.Intn(len(d.im.Strs)))
	case 4:
		n := d.Intn(4)
		d.expressions(n, deep)
		d.put(api.OpList, n)
	case 5:
		n := d.Intn(len(d.im.Keys))
		d.expressions(len(d.im.Keys[n]), deep)
		d.put(api.OpRec, n)
	case 6, 7, 8:
		d.call(deep)
	case 9:
		d.expressions(2, deep)
		d.put(api.OpIndex, 0)
	default:
		d.expression(deep - 1)
		from := d.put([]int{api.OpKeepFalse, api.OpKeepTrue}[d.Intn(2)], 0)
		d.expression(deep - 1)
		d.lead(from)
	}
}

func (d *drawer) call(deep int) {
	op, n := api.OpCall, d.Intn(3)
	if d.Intn(4) == 0 {
		op = api.OpSpawn
	}
	f, is := d.makes()
	switch {
	case is && d.Intn(2) == 0:
		d.put(api.OpFun, f)
		n = d.im.Funs[f].Params
	case d.Intn(3) > 0:
		p := []int{d.Intn(api.Prims), api.PrimPrint}[d.Intn(2)]
		d.put(api.OpPrim, p)
		n = prim.Arity(p)
	default:
		d.expression(deep - 1)
	}
	if d.Intn(20) == 0 {
		n = d.Intn(3)
	}
	d.height++
	d.expressions(n, deep)
	d.height--
	d.put(op, n)
}

func (d *drawer) statements(deep int) {
	for range d.Intn(3) {
		d.statement(deep - 1)
	}
}

func (d *drawer) statement(deep int) {
	if deep <= 0 {
		d.simple()
		return
	}
	switch d.Intn(8) {
	case 0:
		d.choice(deep)
	case 1:
		d.repeat(deep)
	case 2, 3:
		d.try(deep)
	case 4: // what is put stays below what the statements do
		d.expression(deep - 1)
		d.height++
		d.statements(deep)
		d.height--
		d.put(api.OpPop, 0)
	case 5, 6:
		d.expression(deep - 1)
		if d.Intn(3) == 0 {
			d.put([]int{api.OpReturn, api.OpThrow, api.OpThrow}[d.Intn(3)], 0)
		} else {
			d.put(api.OpPop, 0)
		}
	default:
		d.simple()
	}
}

func (d *drawer) simple() {
	switch d.Intn(8) {
	case 0:
		d.expressions(1, 2)
		d.put(api.OpStore, d.Intn(d.c.Slots))
	case 1:
		d.put(api.OpBox, d.Intn(d.c.Slots))
	case 2:
		d.expressions(1, 2)
		d.put(api.OpStoreCell, d.Intn(d.c.Slots))
	case 3:
		d.expressions(1, 2)
		d.put(api.OpStoreGlobal, d.Intn(d.im.Globals))
	case 4:
		d.expressions(3, 1)
		d.put(api.OpSetIndex, 0)
	case 5:
		d.expressions(2, 1)
		d.put(api.OpSetField, d.Intn(len(d.im.Strs)))
	default:
		d.expressions(1, 2)
		if len(d.c.Caps) > 0 && d.Intn(4) > 0 {
			d.put(api.OpStoreCap, d.Intn(len(d.c.Caps)))
		} else {
			d.put(api.OpPop, 0)
		}
	}
}

func (d *drawer) choice(deep int) {
	d.expression(deep - 1)
	no := d.put(api.OpFalse, 0)
	d.statements(deep)
	behind := d.put(api.OpJump, 0)
	d.lead(no)
	d.statements(deep)
	d.lead(behind)
}

func (d *drawer) repeat(deep int) {
	first := len(d.c.Code)
	d.expression(deep - 1)
	no := d.put(api.OpFalse, 0)
	d.statements(deep)
	d.put(api.OpLoop, first)
	d.lead(no)
}

// try cuts the stack somewhere between the Try about it and where it stands.
func (d *drawer) try(deep int) {
	from, low := len(d.c.Code), d.low
	d.low += d.Intn(d.height - low + 1)
	d.statement(deep - 1)
	d.statements(deep)
	to := len(d.c.Code)
	behind := d.put(api.OpJump, 0)
	d.c.Tries = append(d.c.Tries, api.Try{From: from, To: to, Target: len(d.c.Code), Depth: d.low})
	d.put(api.OpStore, d.Intn(d.c.Slots))
	for range d.height - d.low { // as high as where nothing was thrown
		d.leaf()
	}
	d.low = low
	d.statements(deep)
	d.lead(behind)
}

func (d *drawer) function(f, deep int) {
	d.c, d.height, d.low = &d.im.Funs[f], 0, 0
	for slot := d.c.Params; slot < d.c.Slots; slot++ {
		if d.Intn(3) == 0 {
			d.put(api.OpBox, slot)
		}
	}
	if len(d.c.Caps) > 0 && d.Intn(2) == 0 {
		d.put(api.OpInt, 8)
		d.put(api.OpStoreCap, d.Intn(len(d.c.Caps)))
	}
	for range 1 + d.Intn(4) {
		if d.Intn(4) == 0 {
			d.statement(deep)
		} else {
			d.try(deep)
		}
	}
	d.leaf()
	d.put(api.OpReturn, 0)
}

// image: functions take slots, or what the one that makes them took.
func (d *drawer) image() api.Image {
	d.im = api.Image{
		Strs:    []string{"a", "b", "c", "a"},
		Keys:    [][]int{{}, {1}, {0, 1, 2}, {3, 2}},
		Globals: 1 + d.Intn(3),
		Funs:    make([]api.Code, 2+d.Intn(4)),
	}
	for f := range d.im.Funs {
		c := &d.im.Funs[f]
		c.Slots = 2 + d.Intn(3)
		if f == 0 {
			continue
		}
		c.Params = d.Intn(3)
		for p := range c.Params {
			if d.Intn(2) == 0 {
				c.Boxes = append(c.Boxes, p)
			}
		}
		for range 1 + d.Intn(2) {
			c.Caps = append(c.Caps, api.Cap{Own: min(1, d.Intn(3)), N: d.Intn(2)})
		}
	}
	for f := range d.im.Funs {
		d.function(f, 1+d.Intn(5))
	}
	return d.im
}

// spoil changes something; the image may be one that can't be run then.
func (d *drawer) spoil(im *api.Image) {
	c := &im.Funs[d.Intn(len(im.Funs))]
	i := &c.Code[d.Intn(len(c.Code))]
	switch d.Intn(5) {
	case 0:
		i.Op = d.Intn(api.Ops)
	case 1:
		i.A += d.Intn(5) - 2
	case 2:
		i.A = d.Intn(len(c.Code))
	case 3:
		from := d.Intn(len(c.Code))
		to := min(from+d.Intn(6), len(c.Code)-1)
		c.Tries = append([]api.Try{{From: from, To: to, Target: to + d.Intn(len(c.Code)-to), Depth: d.Intn(2)}}, c.Tries...)
	case 4:
		if len(c.Tries) > 0 {
			t := &c.Tries[d.Intn(len(c.Tries))]
			n := []*int{&t.From, &t.To, &t.Target, &t.Depth}[d.Intn(4)]
			*n += d.Intn(3) - 1
		}
	}
}
