package gen

import "jacquard/api"

// statements writes so many. Between them the stack is empty: so every Try cuts it to nothing.
func (m *maker) statements(n int) {
	for range n {
		m.statement()
	}
}

func (m *maker) statement() {
	i := m.take()
	n := m.nodes[i]
	switch n.Kind {
	case api.NodeBlock:
		m.statements(n.N)
	case api.NodeVar:
		m.expression()
		m.declare(m.scope.Uses[i])
	case api.NodeSet:
		m.set()
	case api.NodeIf:
		m.choice(n.N == 3)
	case api.NodeWhile:
		m.while()
	case api.NodeBreak:
		m.loop.breaks = append(m.loop.breaks, m.putAhead(api.OpJump))
	case api.NodeContinue:
		m.put(api.OpLoop, m.loop.first)
	case api.NodeReturn:
		m.result(n.N)
	case api.NodeThrow:
		m.expression()
		m.put(api.OpThrow, 0)
	case api.NodeTry:
		m.attempt(m.scope.Uses[i])
	case api.NodeFn:
		m.named(i)
	case api.NodeExpr:
		m.expression()
		m.put(api.OpPop, 0)
	}
}

// set: what the target is made of comes ahead of the value; the target itself is written to, not reckoned.
func (m *maker) set() {
	i := m.take()
	target := m.nodes[i]
	m.expressions(target.N)
	m.expression()
	switch target.Kind {
	case api.NodeName:
		m.store(m.scope.Uses[i])
	case api.NodeIndex:
		m.put(api.OpSetIndex, 0)
	case api.NodeField:
		m.put(api.OpSetField, m.text(target.Text))
	}
}

func (m *maker) choice(hasElse bool) {
	m.expression()
	no := m.putAhead(api.OpFalse)
	m.statement()
	if !hasElse {
		no()
		return
	}
	behind := m.putAhead(api.OpJump)
	no()
	m.statement()
	behind()
}

func (m *maker) while() {
	about := m.loop
	m.loop = loop{first: m.here()}
	m.expression()
	no := m.putAhead(api.OpFalse)
	m.statement()
	m.put(api.OpLoop, m.loop.first)
	no()
	for _, leave := range m.loop.breaks {
		leave()
	}
	m.loop = about
}

func (m *maker) result(values int) {
	if values == 0 {
		m.end()
		return
	}
	m.expression()
	m.put(api.OpReturn, 0)
}

// attempt: a Try comes behind those within its first Block, since the first one that covers a place is the one that catches.
func (m *maker) attempt(caught api.Use) {
	from := m.here()
	m.statement()
	to := m.here()
	behind := m.putAhead(api.OpJump)
	m.fun.Tries = append(m.fun.Tries, api.Try{From: from, To: to, Target: m.here()})
	m.declare(caught)
	m.statement()
	behind()
}

// named: a function that is taken may take itself, so its cell is there ahead of it.
func (m *maker) named(i int) {
	u := m.scope.Uses[i]
	if u.Where != api.UseCell {
		m.lambda(i)
		m.declare(u)
		return
	}
	m.put(api.OpAtom, atomNil)
	m.declare(u)
	m.lambda(i)
	m.store(u)
}
