package scope

import (
	"jacquard/api"
	"jacquard/parse"
)

// The model: each of the chapter's words looked up by itself, over the whole list, as often as it takes.
type model struct {
	l      []api.Node
	about  []int // of each node: the one that is made of it; -1 of the Prog
	behind []int
}

// seenFrom is a declaration in a slot: who declares it, in which node, from which place on up to which one it is seen.
type seenFrom struct{ by, in, from, to int }

func newModel(l []api.Node) *model {
	m := &model{l: l, about: make([]int, len(l)), behind: make([]int, len(l))}
	m.about[0] = -1
	for i := range l {
		m.behind[i], _ = parse.Behind(l, i)
	}
	for i := range l {
		for _, part := range m.parts(i) {
			m.about[part] = i
		}
	}
	return m
}

func (m *model) parts(i int) (places []int) {
	at := i + 1
	for range m.l[i].N {
		places = append(places, at)
		at = m.behind[at]
	}
	return places
}

func (m *model) isFun(i int) bool {
	return i == 0 || m.l[i].Kind == api.NodeFn || m.l[i].Kind == api.NodeLambda
}

// funOf: the node of the function that a node belongs to.
func (m *model) funOf(i int) int {
	for i = m.about[i]; i > 0 && !m.isFun(i); {
		i = m.about[i]
	}
	return max(i, 0)
}

// funs are the nodes of all functions.
func (m *model) funs() (places []int) {
	for i := range m.l {
		if m.isFun(i) {
			places = append(places, i)
		}
	}
	return places
}

func (m *model) isParameter(i int) bool {
	if i == 0 || m.about[i] == 0 || !m.isFun(m.about[i]) {
		return false
	}
	parts := m.parts(m.about[i])
	return i != parts[len(parts)-1]
}

func (m *model) isGlobal(i int) bool {
	return m.about[i] == 0 && (m.l[i].Kind == api.NodeVar || m.l[i].Kind == api.NodeFn)
}

// declared: what a node declares in a slot, if it does.
func (m *model) declared(i int) (seenFrom, bool) {
	switch {
	case i == 0 || m.isGlobal(i):
		return seenFrom{}, false
	case m.l[i].Kind == api.NodeVar:
		return seenFrom{i, m.about[i], m.behind[i], m.behind[m.about[i]]}, true
	case m.l[i].Kind == api.NodeFn:
		return seenFrom{i, m.about[i], i, m.behind[m.about[i]]}, true
	case m.l[i].Kind == api.NodeTry:
		second := m.parts(i)[1]
		return seenFrom{i, i, second, m.behind[second]}, true
	case m.isParameter(i):
		parts := m.parts(m.about[i])
		block := parts[len(parts)-1]
		return seenFrom{i, m.about[i], block, m.behind[block]}, true
	}
	return seenFrom{}, false
}

// slot: how many slots of its function are ahead of what a node declares.
func (m *model) slot(by int) (slot int) {
	for i := range by {
		if _, is := m.declared(i); is && m.funOf(i) == m.funOf(by) {
			slot++
		}
	}
	return slot
}

// global: how many globals are ahead of it.
func (m *model) global(by int) (number int) {
	for i := range by {
		if m.isGlobal(i) {
			number++
		}
	}
	return number
}

func (m *model) isUse(i int) bool { return m.l[i].Kind == api.NodeName && !m.isParameter(i) }

// means: the node whose declaration a Name means; -1: none.
func (m *model) means(i int) int {
	best := seenFrom{by: -1, in: -1}
	for by := range m.l {
		d, is := m.declared(by)
		if is && m.l[by].Text == m.l[i].Text && d.from <= i && i < d.to && d.in > best.in {
			best = d
		}
	}
	if best.by >= 0 {
		return best.by
	}
	for by := range m.l {
		if m.isGlobal(by) && m.l[by].Text == m.l[i].Text {
			return by
		}
	}
	return -1
}

// taken: what a function takes, by the nodes that declare it, in order.
func (m *model) taken(fun int) (by []int) {
	for i := range m.l {
		if !m.isUse(i) {
			continue
		}
		d := m.means(i)
		if d < 0 || m.isGlobal(d) || !m.between(fun, i, m.funOf(d)) || indexOf(by, d) >= 0 {
			continue
		}
		by = append(by, d)
	}
	return by
}

// between: is a function the one that a node belongs to, or about that one, up to a last one that does not count?
func (m *model) between(fun, i, last int) bool {
	for f := m.funOf(i); f != last; f = m.funOf(f) {
		if f == fun {
			return true
		}
	}
	return false
}

func indexOf(l []int, x int) int {
	for i, y := range l {
		if x == y {
			return i
		}
	}
	return -1
}

// declarationUse: the use of a node that declares.
func (m *model) declarationUse(by int) api.Use {
	if m.isGlobal(by) {
		return api.Use{Where: api.UseGlobal, N: m.global(by)}
	}
	for i := range m.l {
		if m.isUse(i) && m.means(i) == by && m.funOf(i) != m.funOf(by) {
			return api.Use{Where: api.UseCell, N: m.slot(by)}
		}
	}
	return api.Use{Where: api.UseSlot, N: m.slot(by)}
}

func (m *model) use(i int) api.Use {
	if _, is := m.declared(i); is || m.isGlobal(i) {
		return m.declarationUse(i)
	}
	if !m.isUse(i) {
		return api.Use{}
	}
	by := m.means(i)
	if by < 0 {
		number, _ := Prim(m.l[i].Text)
		return api.Use{Where: api.UsePrim, N: number}
	}
	if m.isGlobal(by) || m.funOf(by) == m.funOf(i) {
		return m.declarationUse(by)
	}
	return api.Use{Where: api.UseCap, N: indexOf(m.taken(m.funOf(i)), by)}
}

func (m *model) caps(fun int) (caps []api.Cap) {
	about := m.funOf(fun)
	for _, by := range m.taken(fun) {
		if m.funOf(by) == about {
			caps = append(caps, api.Cap{Own: 1, N: m.slot(by)})
		} else {
			caps = append(caps, api.Cap{Own: 0, N: indexOf(m.taken(about), by)})
		}
	}
	return caps
}

func (m *model) scope() (s api.Scope) {
	for i := range m.l {
		s.Uses = append(s.Uses, m.use(i))
		if m.isGlobal(i) {
			s.Globals = append(s.Globals, m.l[i].Text)
		}
	}
	for _, f := range m.funs() {
		x := api.Fun{Node: f}
		if f > 0 {
			x.Params = m.l[f].N - 1
			x.Caps = m.caps(f)
		}
		for i := range m.l {
			if _, is := m.declared(i); is && m.funOf(i) == f {
				x.Slots++
			}
		}
		s.Funs = append(s.Funs, x)
	}
	return s
}

func (m *model) isTwice(i int) bool {
	d, slot := m.declared(i)
	for by := range i {
		if m.l[by].Text != m.l[i].Text {
			continue
		}
		before, is := m.declared(by)
		if slot && is && before.in == d.in || m.isGlobal(i) && m.isGlobal(by) {
			return true
		}
	}
	return false
}

func (m *model) inLoop(i int) bool {
	for at := i; m.about[at] >= 0; at = m.about[at] {
		w := m.about[at]
		if m.l[w].Kind == api.NodeWhile && m.funOf(w) == m.funOf(i) && at == m.parts(w)[1] {
			return true
		}
	}
	return false
}

// faultAt: a node's own fault, but for bounds.
func (m *model) faultAt(i int) api.Errno {
	n := m.l[i]
	_, prim := Prim(n.Text)
	_, slot := m.declared(i)
	switch {
	case slot || m.isGlobal(i):
		if prim {
			return api.ErrKind
		}
		if m.isTwice(i) {
			return api.ErrTwice
		}
	case n.Kind == api.NodeSet && m.l[i+1].Kind == api.NodeName:
		if _, is := Prim(m.l[i+1].Text); is {
			return api.ErrKind
		}
	case m.isUse(i):
		if m.means(i) < 0 && !prim {
			return api.ErrNone
		}
	case n.Kind == api.NodeBreak || n.Kind == api.NodeContinue:
		if !m.inLoop(i) {
			return api.ErrForm
		}
	case n.Kind == api.NodeReturn:
		if m.funOf(i) == 0 {
			return api.ErrForm
		}
	}
	return api.OK
}

func (m *model) fault() (api.Errno, int) {
	for i := range m.l {
		if e := m.faultAt(i); e != api.OK {
			return e, m.l[i].At
		}
	}
	return api.OK, 0
}
