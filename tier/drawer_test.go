package tier

import (
	"math/rand"
	"slices"

	"jacquard/api"
	"jacquard/prim"
)

// drawer draws images that can be run, statement by statement. Function f is what global f is at first; calls are most often of such globals, with as many values as the function takes.
type drawer struct {
	*rand.Rand
	im     api.Image
	c      *api.Code
	height int
	low    int   // the Depth of the Try about, which no height goes below
	cells  []int // slots with cells in them
	plain  []int // other slots, most often with numbers
}

func (d *drawer) put(op, a int) int {
	d.c.Code = append(d.c.Code, api.Instr{Op: op, A: a})
	return len(d.c.Code) - 1
}

// lead makes the instruction at a place go on here.
func (d *drawer) lead(from int) { d.c.Code[from].A = len(d.c.Code) }

// makes: can this function make f?
func (d *drawer) makes(f int) bool {
	for _, p := range d.im.Funs[f].Caps {
		if p.Own == 0 && p.N >= len(d.c.Caps) || p.Own == 1 && p.N >= d.c.Slots {
			return false
		}
	}
	return true
}

// oneOf is most often one of l, else any below many.
func (d *drawer) oneOf(l []int, many int) int {
	if len(l) == 0 || d.Intn(30) == 0 {
		return d.Intn(many)
	}
	return l[d.Intn(len(l))]
}

// leaf is most often a number, if all is as it was at first.
func (d *drawer) leaf() {
	switch d.Intn(100) {
	case 0:
		d.put(api.OpAtom, d.Intn(3))
	case 1:
		d.put(api.OpStr, d.Intn(len(d.im.Strs)))
	case 2:
		d.put(api.OpPrim, d.Intn(api.Prims))
	case 3:
		if f := 1 + d.Intn(len(d.im.Funs)-1); d.makes(f) {
			d.put(api.OpFun, f)
			return
		}
		fallthrough
	case 4, 5, 6, 7, 8, 9, 10, 11, 12, 13:
		if len(d.c.Caps) > 0 {
			d.put(api.OpLoadCap, d.Intn(len(d.c.Caps)))
			return
		}
		fallthrough
	case 14, 15, 16, 17, 18, 19, 20, 21, 22:
		if len(d.cells) > 0 {
			d.put(api.OpLoadCell, d.oneOf(d.cells, d.c.Slots))
			return
		}
		fallthrough
	case 23, 24, 25, 26, 27, 28, 29, 30, 31, 32, 33, 34, 35:
		d.put(api.OpLoad, d.oneOf(d.plain, d.c.Slots))
	case 36, 37, 38, 39, 40, 41, 42:
		d.put(api.OpLoadGlobal, d.im.Globals-1-d.Intn(2))
		if d.Intn(20) == 0 {
			d.c.Code[len(d.c.Code)-1].A = d.Intn(d.im.Globals)
		}
	default:
		d.put(api.OpInt, d.Intn(8)-3)
	}
}

// expressions puts so many.
func (d *drawer) expressions(n, deep int) {
	for range n {
		d.expression(deep - 1)
		d.height++
	}
	d.height -= n
}

// expression is most often a number.
func (d *drawer) expression(deep int) {
	if deep <= 0 {
		d.leaf()
		return
	}
	switch d.Intn(44) {
	case 0:
		d.expressions(2, deep)
		d.put(api.OpBin, d.Intn(11))
	case 1:
		d.expressions(1, deep)
		d.put(api.OpNot, 0)
	case 2, 3:
		d.expressions(3, deep)
		d.put(api.OpRec, 2)
		d.put(api.OpField, d.Intn(3))
	case 4, 5:
		n := 1 + d.Intn(3)
		d.expressions(n, deep)
		d.put(api.OpList, n)
		d.put(api.OpInt, d.Intn(n))
		d.put(api.OpIndex, 0)
	case 6:
		d.expressions(2, deep)
		d.put(api.OpList, 2)
	case 7, 8, 9, 10, 11:
		d.expression(deep - 1)
		from := d.put([]int{api.OpKeepFalse, api.OpKeepTrue}[d.Intn(2)], 0)
		d.expression(deep - 1)
		d.lead(from)
	case 12, 13:
		d.expressions(1, deep)
		d.put(api.OpNeg, 0)
	case 14, 15, 16, 17, 18, 19, 20, 21, 22, 23, 24, 25:
		d.call(deep)
	default:
		d.expressions(2, deep)
		d.put(api.OpBin, d.Intn(3))
	}
}

// truth is what something hangs on.
func (d *drawer) truth(deep int) {
	if d.Intn(3) == 0 {
		d.expression(deep - 1)
		return
	}
	d.expressions(2, deep-1)
	d.put(api.OpBin, api.BinEq+d.Intn(6))
	if d.Intn(4) == 0 {
		d.put(api.OpNot, 0)
	}
}

func (d *drawer) call(deep int) {
	op, n := api.OpCall, d.Intn(3)
	if d.Intn(20) == 0 {
		op = api.OpSpawn
	}
	f := 1 + d.Intn(len(d.im.Funs)-1)
	switch k := d.Intn(24); {
	case k < 18:
		d.put(api.OpLoadGlobal, f)
		n = d.im.Funs[f].Params
	case k < 20 && d.makes(f):
		d.put(api.OpFun, f)
		n = d.im.Funs[f].Params
	case k < 23:
		p := []int{d.Intn(api.Prims), api.PrimYield, api.PrimRand, api.PrimNow}[d.Intn(4)]
		d.put(api.OpPrim, p)
		n = prim.Arity(p)
	default:
		d.expression(deep - 1)
	}
	if d.Intn(60) == 0 {
		n = d.Intn(3)
	}
	d.height++
	d.expressions(n, deep)
	d.height--
	d.put(op, n)
}

func (d *drawer) statements(deep int) {
	for range d.Intn(3) {
		d.statement(deep - 1)
	}
}

func (d *drawer) statement(deep int) {
	if deep <= 0 {
		d.simple()
		return
	}
	switch d.Intn(9) {
	case 0, 1:
		d.choice(deep)
	case 2:
		d.repeat(deep)
	case 3:
		d.try(deep)
	case 4: // what is put stays below what the statements do
		slot := d.oneOf(d.plain, d.c.Slots)
		if d.Intn(3) == 0 {
			d.expression(deep - 1)
		} else {
			d.put(api.OpLoad, slot)
		}
		d.height++
		d.statements(deep)
		d.expression(1)
		d.put(api.OpStore, slot)
		d.statements(deep)
		d.height--
		d.put(api.OpPop, 0)
	case 5, 6:
		d.expression(deep - 1)
		if d.Intn(3) == 0 {
			d.put([]int{api.OpReturn, api.OpReturn, api.OpReturn, api.OpReturn, api.OpThrow}[d.Intn(5)], 0)
		} else {
			d.put(api.OpPop, 0)
		}
	default:
		d.simple()
	}
}

func (d *drawer) simple() {
	switch d.Intn(20) {
	case 0, 1, 2, 3, 4, 5, 6, 7, 8:
		d.expressions(1, 2)
		d.put(api.OpStore, d.oneOf(d.plain, d.c.Slots))
	case 9, 10:
		slot := d.oneOf(d.cells, d.c.Slots)
		d.put(api.OpInt, d.Intn(9))
		d.put(api.OpStore, slot)
		d.put(api.OpBox, slot)
	case 11, 12:
		d.expressions(1, 2)
		d.put(api.OpStoreCell, d.oneOf(d.cells, d.c.Slots))
	case 13:
		d.expressions(1, 2)
		d.put(api.OpStoreGlobal, d.im.Globals-1-d.Intn(2))
		if d.Intn(16) == 0 {
			d.c.Code[len(d.c.Code)-1].A = d.Intn(d.im.Globals)
		}
	case 14:
		d.expression(1)
		d.put(api.OpList, 1)
		d.put(api.OpInt, d.Intn(12)/11)
		d.expression(1)
		d.put(api.OpSetIndex, 0)
	case 15:
		d.put(api.OpRec, 0)
		d.expressions(1, 1)
		d.put(api.OpSetField, d.Intn(len(d.im.Strs)))
	default:
		d.expressions(1, 2)
		if len(d.c.Caps) > 0 && d.Intn(4) > 0 {
			d.put(api.OpStoreCap, d.Intn(len(d.c.Caps)))
		} else {
			d.put(api.OpPop, 0)
		}
	}
}

func (d *drawer) choice(deep int) {
	d.truth(deep)
	no := d.put(api.OpFalse, 0)
	d.statements(deep)
	behind := d.put(api.OpJump, 0)
	d.lead(no)
	d.statements(deep)
	d.lead(behind)
}

func (d *drawer) repeat(deep int) {
	first := len(d.c.Code)
	d.truth(deep)
	no := d.put(api.OpFalse, 0)
	d.statements(deep)
	d.put(api.OpLoop, first)
	d.lead(no)
}

// try cuts the stack somewhere between the Try about it and where it stands.
func (d *drawer) try(deep int) {
	from, low := len(d.c.Code), d.low
	d.low += d.Intn(d.height - low + 1)
	d.statement(deep - 1)
	d.statements(deep)
	to := len(d.c.Code)
	behind := d.put(api.OpJump, 0)
	d.c.Tries = append(d.c.Tries, api.Try{From: from, To: to, Target: len(d.c.Code), Depth: d.low})
	d.put(api.OpStore, d.oneOf(d.plain, d.c.Slots))
	for range d.height - d.low { // as high as where nothing was thrown
		d.leaf()
	}
	d.low = low
	d.statements(deep)
	d.lead(behind)
}

// function: slots are cells or numbers at first, but for some.
func (d *drawer) function(f, deep int) {
	d.c, d.height, d.low = &d.im.Funs[f], 0, 0
	d.cells, d.plain = slices.Clone(d.c.Boxes), nil
	for slot := range d.c.Slots {
		if slices.Contains(d.cells, slot) {
			continue
		}
		if slot >= d.c.Params && d.Intn(20) > 0 {
			d.put(api.OpInt, d.Intn(8))
			d.put(api.OpStore, slot)
		}
		if d.Intn(6) == 0 || f == 0 && slot < 2 { // what most functions take
			d.put(api.OpBox, slot)
			d.cells = append(d.cells, slot)
		} else {
			d.plain = append(d.plain, slot)
		}
	}
	if f == 0 {
		d.begin(deep)
	}
	for range 1 + d.Intn(4) {
		if d.Intn(6) > 0 {
			d.statement(deep)
		} else {
			d.try(deep)
		}
	}
	d.leaf()
	d.put(api.OpReturn, 0)
}

// begin: the globals, and calls again and again, of which what they throw is caught.
func (d *drawer) begin(deep int) {
	for g := 1; g < d.im.Globals; g++ {
		if g < len(d.im.Funs) && d.makes(g) {
			d.put(api.OpFun, g)
		} else {
			d.put(api.OpInt, d.Intn(9))
		}
		d.put(api.OpStoreGlobal, g)
	}
	first := len(d.c.Code)
	d.call(deep)
	d.height++
	d.call(deep)
	d.height--
	d.put(api.OpBin, d.Intn(11))
	to := len(d.c.Code)
	out := d.put(api.OpFalse, 0)
	d.put(api.OpLoop, first)
	d.c.Tries = append(d.c.Tries, api.Try{From: first, To: to, Target: len(d.c.Code)})
	d.put(api.OpStore, d.c.Slots-1)
	d.put(api.OpLoop, first)
	d.lead(out)
}

// image: of its functions half may be within.
func (d *drawer) image() api.Image {
	d.im = api.Image{
		Strs: []string{"a", "b", "c", "a"},
		Keys: [][]int{{}, {1}, {0, 1, 2}, {3, 2}},
		Funs: make([]api.Code, 3+d.Intn(4)),
	}
	d.im.Globals = len(d.im.Funs) + 2
	for f := range d.im.Funs {
		c := &d.im.Funs[f]
		c.Slots = 2 + d.Intn(3)
		if f == 0 {
			c.Slots = 5
			continue
		}
		c.Params = d.Intn(3)
		if d.Intn(3) > 0 {
			continue
		}
		for p := range c.Params {
			if d.Intn(2) == 0 {
				c.Boxes = append(c.Boxes, p)
			}
		}
		for range d.Intn(3) {
			c.Caps = append(c.Caps, api.Cap{Own: min(1, d.Intn(4)), N: d.Intn(2)})
		}
	}
	for f := range d.im.Funs {
		d.function(f, 1+d.Intn(4))
	}
	return d.im
}

// spoil changes something; the image may be one that can't be run then.
func (d *drawer) spoil(im *api.Image) {
	c := &im.Funs[d.Intn(len(im.Funs))]
	i := &c.Code[d.Intn(len(c.Code))]
	switch d.Intn(6) {
	case 0:
		i.Op = d.Intn(api.Ops)
	case 1:
		i.A += d.Intn(5) - 2
	case 2, 3:
		i.A = d.Intn(len(c.Code))
	case 4:
		*i = api.Instr{Op: []int{api.OpJump, api.OpLoop, api.OpFalse}[d.Intn(3)], A: d.Intn(len(c.Code))}
	case 5:
		from := d.Intn(len(c.Code))
		to := min(from+d.Intn(6), len(c.Code)-1)
		c.Tries = append([]api.Try{{From: from, To: to, Target: to + d.Intn(len(c.Code)-to), Depth: d.Intn(2)}}, c.Tries...)
	}
}

func (d *drawer) how() api.How {
	return api.How{Fold: d.Intn(2), Guard: d.Intn(2), Inline: min(api.MaxInline, d.Intn(10))}
}
