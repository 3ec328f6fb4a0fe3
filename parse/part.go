package parse

import "jacquard/api"

// part is a node with what it is made of. The list is written out when all is read: what is on the left is read ahead of the node about it.
type part struct {
	node  api.Node
	parts []*part
}

// made is a node of a kind that begins at a place.
func made(kind, at int, parts ...*part) *part {
	return &part{node: api.Node{Kind: kind, At: at}, parts: parts}
}

// madeNamed is one that has a name or a sign besides.
func madeNamed(kind int, text string, at int, parts ...*part) *part {
	return &part{node: api.Node{Kind: kind, Text: text, At: at}, parts: parts}
}

// appendTo writes the node and all that it is made of behind a list.
func (x *part) appendTo(l []api.Node) []api.Node {
	n := x.node
	n.N = len(x.parts)
	l = append(l, n)
	for _, y := range x.parts {
		l = y.appendTo(l)
	}
	return l
}

// isTarget: may it stand ahead of a =?
func (x *part) isTarget() bool { return fits(x.node.Kind, asTarget) }
