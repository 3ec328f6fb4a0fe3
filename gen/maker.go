package gen

import "jacquard/api"

// maker makes an image, going through the nodes in their order.
type maker struct {
	*writer // of the function that the next node belongs to
	nodes   []api.Node
	scope   api.Scope
	next    int
	numbers map[int]int    // of functions, by their nodes' places
	texts   map[string]int // places in Strs
	im      api.Image
}

func newMaker(l []api.Node, s api.Scope) *maker {
	m := &maker{
		nodes:   l,
		scope:   s,
		numbers: map[int]int{},
		texts:   map[string]int{},
		im:      api.Image{Funs: make([]api.Code, len(s.Funs)), Globals: len(s.Globals)},
	}
	for f, fun := range s.Funs {
		m.numbers[fun.Node] = f
	}
	return m
}

func (m *maker) image() api.Image {
	m.function(m.take(), m.program)
	return m.im
}

// take goes on behind the next node, and tells its place; what it is made of is next then.
func (m *maker) take() int {
	m.next++
	return m.next - 1
}

// text is the place of a text in Strs.
func (m *maker) text(s string) int {
	at, is := m.texts[s]
	if !is {
		at = len(m.im.Strs)
		m.texts[s] = at
		m.im.Strs = append(m.im.Strs, s)
	}
	return at
}

// function writes the function of the node at a place, by what writes its statements, and tells its number. The one about it goes on behind.
func (m *maker) function(i int, body func()) int {
	about := m.writer
	number := m.numbers[i]
	f := m.scope.Funs[number]
	m.writer = &writer{fun: api.Code{Params: f.Params, Slots: f.Slots, Caps: f.Caps}}
	m.parameters()
	body()
	m.end()
	m.im.Funs[number] = m.fun
	m.writer = about
	return number
}

// parameters: those that are taken by a function are boxed by the call itself.
func (m *maker) parameters() {
	for p := range m.fun.Params {
		if m.scope.Uses[m.take()].Where == api.UseCell {
			m.fun.Boxes = append(m.fun.Boxes, p)
		}
	}
}

func (m *maker) program() { m.statements(m.nodes[0].N) }
