package gen

import (
	"slices"

	"jacquard/api"
)

// mostEntries is how many entries a List or Rec may have: one instruction takes them all.
const mostEntries = 255

// measures are what is found out of a program's nodes ahead of its instructions, each by its node's place.
type measures struct {
	nodes []api.Node
	needs []int  // how many values at once: of an expression or a Key its own, of a statement what it is directly made of
	again []bool // of a Key: its Text stands in its Rec ahead of it
	parts []int  // places of nodes that are still part of none, the one that stands first being the last
}

// measure goes from the last node to the first, so that each node's parts are known ahead of it, however deep they are nested.
func measure(l []api.Node) *measures {
	m := &measures{nodes: l, needs: make([]int, len(l)), again: make([]bool, len(l))}
	for i, n := range slices.Backward(l) {
		if isStatement(n.Kind) {
			m.needs[i] = m.statementNeed(n)
		} else {
			m.needs[i] = m.expressionNeed(n)
		}
		if n.Kind == api.NodeRec {
			m.markAgain(n.N)
		}
		m.parts = append(m.parts[:len(m.parts)-n.N], i)
	}
	return m
}

// part is the place of the k-th part of the node that is being measured.
func (m *measures) part(k int) int { return m.parts[len(m.parts)-1-k] }

func (m *measures) expressionNeed(n api.Node) int {
	most := 1
	stays := 0
	switch n.Kind {
	case api.NodeBin, api.NodeList, api.NodeRec, api.NodeCall, api.NodeSpawn, api.NodeIndex:
		stays = 1 // what a part leaves is below what those behind it need
		fallthrough
	case api.NodeAnd, api.NodeOr, api.NodeKey, api.NodeNot, api.NodeNeg, api.NodeField:
		for k := range n.N {
			most = max(most, stays*k+m.needs[m.part(k)])
		}
	}
	return most
}

func (m *measures) statementNeed(n api.Node) int {
	switch n.Kind {
	case api.NodeReturn:
		if n.N == 0 {
			return 0
		}
		fallthrough
	case api.NodeVar, api.NodeIf, api.NodeWhile, api.NodeThrow, api.NodeExpr:
		return m.needs[m.part(0)]
	case api.NodeSet:
		target, value := m.part(0), m.part(1)
		return max(m.needs[target], m.nodes[target].N+m.needs[value])
	}
	return 0
}

// markAgain looks at the Keys of the Rec that is being measured.
func (m *measures) markAgain(keys int) {
	first := map[string]int{}
	for k := range keys {
		at := m.part(k)
		if _, met := first[m.nodes[at].Text]; met {
			m.again[at] = true
		} else {
			first[m.nodes[at].Text] = at
		}
	}
}

// firstFault is the place of the first node that no image can be made of, and why.
func (m *measures) firstFault() (int, api.Errno) {
	for i, n := range m.nodes {
		switch {
		case m.again[i]:
			return i, api.ErrTwice
		case n.Kind == api.NodeList || n.Kind == api.NodeRec:
			if n.N > mostEntries {
				return i, api.ErrMany
			}
		case isStatement(n.Kind) && m.needs[i] > api.MaxStack:
			return i, api.ErrMany
		}
	}
	return 0, api.OK
}
