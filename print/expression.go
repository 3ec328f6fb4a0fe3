package print

import (
	"strconv"

	"jacquard/api"
)

// Strengths, and the bindings that places ask for.
const (
	anyStrength = iota
	orStrength
	andStrength
	notStrength
	comparisonStrength
	sumStrength
	productStrength
	aheadStrength  // - and spawn
	behindStrength // calls, [ ] and .
	singleStrength
)

func strength(n api.Node) int {
	switch n.Kind {
	case api.NodeOr:
		return orStrength
	case api.NodeAnd:
		return andStrength
	case api.NodeNot:
		return notStrength
	case api.NodeBin:
		return signStrength(n.Text)
	case api.NodeNeg, api.NodeSpawn:
		return aheadStrength
	case api.NodeCall, api.NodeIndex, api.NodeField:
		return behindStrength
	}
	return singleStrength
}

func signStrength(sign string) int {
	switch sign {
	case "+", "-":
		return sumStrength
	case "*", "/", "%":
		return productStrength
	}
	return comparisonStrength
}

// sides are the bindings on the left and on the right of a sign. All but comparisons are taken from the left.
func sides(n api.Node) (left, right int) {
	own := strength(n)
	if own == comparisonStrength {
		return sumStrength, sumStrength
	}
	return own, own + 1
}

// beginsWithBrace: would the text of the expression that comes next, in a place that takes any, begin with a {?
func (p *printer) beginsWithBrace() bool {
	binding := anyStrength
	for _, n := range p.rest {
		if strength(n) < binding {
			return false
		}
		switch n.Kind {
		case api.NodeRec:
			return true
		case api.NodeOr, api.NodeAnd, api.NodeBin:
			binding, _ = sides(n)
		case api.NodeCall, api.NodeIndex, api.NodeField:
			binding = behindStrength
		default:
			return false
		}
	}
	return false
}

// expression writes one into a place that asks for a binding.
func (p *printer) expression(binding int) {
	n := p.next()
	if strength(n) >= binding {
		p.bare(n)
		return
	}
	p.put("(")
	p.bare(n)
	p.put(")")
}

// any writes one into a place that takes any.
func (p *printer) any() { p.expression(anyStrength) }

// bare writes an expression without ( ) about it; its own node is taken already.
func (p *printer) bare(n api.Node) {
	switch n.Kind {
	case api.NodeList:
		p.row("[", "]", n.N, p.any)
	case api.NodeRec:
		p.row("{", "}", n.N, p.key)
	case api.NodeBin:
		p.between(n, n.Text)
	case api.NodeAnd:
		p.between(n, "and")
	case api.NodeOr:
		p.between(n, "or")
	case api.NodeNot:
		p.put("not ")
		p.expression(notStrength)
	case api.NodeNeg:
		p.put("-")
		p.expression(aheadStrength)
	case api.NodeSpawn:
		p.put("spawn ")
		fallthrough
	case api.NodeCall:
		p.expression(behindStrength)
		p.row("(", ")", n.N-1, p.any)
	case api.NodeIndex:
		p.expression(behindStrength)
		p.row("[", "]", 1, p.any)
	case api.NodeField:
		p.expression(behindStrength)
		p.put(".")
		p.put(n.Text)
	case api.NodeLambda:
		p.put("fn ")
		p.withBody(n.Num)
	default:
		p.leaf(n)
	}
}

// leaf writes what is made of nothing.
func (p *printer) leaf(n api.Node) {
	switch n.Kind {
	case api.NodeInt:
		p.put(strconv.Itoa(n.Num))
	case api.NodeStr:
		p.quote(n.Text)
	case api.NodeTrue:
		p.put("true")
	case api.NodeFalse:
		p.put("false")
	case api.NodeNil:
		p.put("nil")
	case api.NodeName:
		p.put(n.Text)
	}
}

// between writes two expressions with a sign, or a word, between them.
func (p *printer) between(n api.Node, sign string) {
	left, right := sides(n)
	p.expression(left)
	p.put(" ")
	p.put(sign)
	p.put(" ")
	p.expression(right)
}

func (p *printer) key() {
	p.put(p.next().Text)
	p.put(": ")
	p.any()
}

// row writes so many parts with commas between them.
func (p *printer) row(begin, end string, n int, part func()) {
	p.put(begin)
	for i := range n {
		if i > 0 {
			p.put(", ")
		}
		part()
	}
	p.put(end)
}
