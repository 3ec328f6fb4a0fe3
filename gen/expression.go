package gen

import (
	"jacquard/api"
	"jacquard/prim"
)

// expressions writes so many, each whole ahead of the next.
func (m *maker) expressions(n int) {
	for range n {
		m.expression()
	}
}

// expression leaves one value more on the stack.
func (m *maker) expression() {
	i := m.take()
	n := m.nodes[i]
	switch n.Kind {
	case api.NodeInt:
		m.put(api.OpInt, n.Num)
	case api.NodeStr:
		m.put(api.OpStr, m.text(n.Text))
	case api.NodeTrue:
		m.put(api.OpAtom, atomTrue)
	case api.NodeFalse:
		m.put(api.OpAtom, atomFalse)
	case api.NodeNil:
		m.put(api.OpAtom, atomNil)
	case api.NodeName:
		m.load(m.scope.Uses[i])
	case api.NodeRec:
		m.record(n.N)
	case api.NodeAnd:
		m.decided(api.OpKeepFalse)
	case api.NodeOr:
		m.decided(api.OpKeepTrue)
	case api.NodeLambda:
		m.lambda(i)
	default:
		m.expressions(n.N)
		m.joined(n)
	}
}

// joined makes one value of those that a node's parts left.
func (m *maker) joined(n api.Node) {
	called := api.OpCall
	switch n.Kind {
	case api.NodeList:
		m.put(api.OpList, n.N)
	case api.NodeBin:
		op, _ := prim.Op(n.Text)
		m.put(api.OpBin, op)
	case api.NodeNot:
		m.put(api.OpNot, 0)
	case api.NodeNeg:
		m.put(api.OpNeg, 0)
	case api.NodeIndex:
		m.put(api.OpIndex, 0)
	case api.NodeField:
		m.put(api.OpField, m.text(n.Text))
	case api.NodeSpawn:
		called = api.OpSpawn
		fallthrough
	case api.NodeCall:
		m.put(called, n.N-1)
	}
}

// record: its keys are told by the image, what is under them by the stack.
func (m *maker) record(n int) {
	keys := make([]int, n)
	for k := range keys {
		keys[k] = m.text(m.nodes[m.take()].Text)
		m.expression()
	}
	m.put(api.OpRec, len(m.im.Keys))
	m.im.Keys = append(m.im.Keys, keys)
}

// decided: the left one, if it decides, stays and is all.
func (m *maker) decided(op int) {
	m.expression()
	behind := m.putAhead(op)
	m.expression()
	behind()
}

// lambda writes the function of a Fn or Lambda, and how it is made.
func (m *maker) lambda(i int) {
	number := m.function(i, m.statement)
	m.put(api.OpFun, number)
}
