package opt

import (
	"jacquard/api"
	"jacquard/tag"
)

// most is how many steps, or registers, code may have.
const most = 65536

// place is an instruction's.
type place struct{ fun, at int }

// maker makes code of a function.
type maker struct {
	image     api.Image
	fun       int
	how       api.How
	known     map[int]api.Known // by global
	seen      map[place]int
	steps     []Step
	sealed    int // the steps ahead of this one stay as they are: something leads here
	registers int
	marks     []mark
	entries   []entry
	values    []api.Value       // the constants
	numbers   map[api.Value]int // their places there
	deps      map[int]api.Dep   // by global
	within    map[int]int       // by function
	spent     int               // how long the functions within are in all
}

func newMaker(im api.Image, fun int, how api.How, known []api.Known, seen []api.Seen) *maker {
	m := &maker{
		image:   im,
		fun:     fun,
		how:     how,
		known:   map[int]api.Known{},
		seen:    map[place]int{},
		numbers: map[api.Value]int{},
		deps:    map[int]api.Dep{},
		within:  map[int]int{},
	}
	for _, k := range known {
		m.known[k.Global] = k
	}
	for _, s := range seen {
		m.seen[place{s.Fun, s.At}] |= s.Kinds
	}
	return m
}

// function makes the steps of the function itself. Of what it is called with nothing is known.
func (m *maker) function() {
	m.newBody(m.fun, 0, nil).goThrough()
}

// made tells the code. Constants that are still taken are numbered behind the registers, in the order in which they are met.
func (m *maker) made() *Code {
	c := &Code{
		fun:       m.fun,
		deps:      inOrder(m.deps, m.image.Globals),
		within:    inOrder(m.within, len(m.image.Funs)),
		steps:     m.steps,
		registers: m.registers,
		marks:     m.marks,
		entries:   m.entries,
	}
	numbered := map[int]int{}
	for source := range c.sources() {
		if !isConstant(*source) {
			continue
		}
		n, met := numbered[*source]
		if !met {
			n = c.registers + len(c.constants)
			numbered[*source] = n
			c.constants = append(c.constants, m.values[^*source])
		}
		*source = n
	}
	return c
}

// inOrder tells what a map has for numbers below many.
func inOrder[T any](m map[int]T, many int) []T {
	var l []T
	for i := range many {
		if x, is := m[i]; is {
			l = append(l, x)
		}
	}
	return l
}

// add: a step. Its number is told, for what is to be patched there.
func (m *maker) add(s Step) int {
	m.steps = append(m.steps, s)
	m.reserve(s.To + 1)
	return len(m.steps) - 1
}

// reserve: there are so many registers at least.
func (m *maker) reserve(many int) { m.registers = max(m.registers, many) }

// patchOf tells what patches a step that goes on somewhere else, where that is known.
func (m *maker) patchOf(step int) func(to int) {
	return func(to int) { m.steps[step].Next = to }
}

// thing is what is known of a value.
type thing struct {
	source int // a register; or, till the code is made, a constant: ^ its place among the maker's values
	fun    int // the function that it is one of; none: that is not known
}

// isConstant: is a source one, in code that is still being made?
func isConstant(source int) bool { return source < 0 }

func inRegister(n int) thing { return thing{source: n, fun: none} }

func (m *maker) constant(v api.Value) thing {
	n, is := m.numbers[v]
	if !is {
		n = len(m.values)
		m.numbers[v] = n
		m.values = append(m.values, v)
	}
	return thing{source: ^n, fun: none}
}

// value is a constant's.
func (m *maker) value(x thing) (api.Value, bool) {
	if !isConstant(x.source) {
		return 0, false
	}
	return m.values[^x.source], true
}

// global is what one is, if it is known: then the code counts on that.
func (m *maker) global(g int) (thing, bool) {
	k, is := m.known[g]
	if !is {
		return thing{}, false
	}
	m.deps[g] = api.Dep{Global: g, Val: k.Val}
	x := m.constant(k.Val)
	if tag.Kind(k.Val) == api.KindRef { // nothing else can be a function, whatever is said
		x.fun = k.Fun
	}
	return x, true
}

// folds: is what is known reckoned ahead?
func (m *maker) folds() bool { return m.how.Fold == 1 }
