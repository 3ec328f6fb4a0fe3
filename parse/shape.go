package parse

import (
	"math"

	"jacquard/api"
	"jacquard/lex"
)

// What a place within a node asks for.
const (
	asProg = iota + 1
	asStatement
	asExpression
	asKey
	asName
	asBlock
	asElse
	asTarget
)

// shape is what a kind of nodes has.
type shape struct {
	as    int // what it stands as: a Prog, a statement, an expression, a Key
	least int // parts
	most  int
	named int // 1: Text is a name
}

var shapes = [...]shape{
	api.NodeProg:     {as: asProg, most: math.MaxInt},
	api.NodeBlock:    {as: asStatement, most: math.MaxInt},
	api.NodeVar:      {as: asStatement, least: 1, most: 1, named: 1},
	api.NodeSet:      {as: asStatement, least: 2, most: 2},
	api.NodeIf:       {as: asStatement, least: 2, most: 3},
	api.NodeWhile:    {as: asStatement, least: 2, most: 2},
	api.NodeBreak:    {as: asStatement},
	api.NodeContinue: {as: asStatement},
	api.NodeReturn:   {as: asStatement, most: 1},
	api.NodeThrow:    {as: asStatement, least: 1, most: 1},
	api.NodeTry:      {as: asStatement, least: 2, most: 2, named: 1},
	api.NodeFn:       {as: asStatement, least: 1, most: api.MaxParams + 1, named: 1},
	api.NodeExpr:     {as: asStatement, least: 1, most: 1},
	api.NodeInt:      {as: asExpression},
	api.NodeStr:      {as: asExpression},
	api.NodeTrue:     {as: asExpression},
	api.NodeFalse:    {as: asExpression},
	api.NodeNil:      {as: asExpression},
	api.NodeName:     {as: asExpression, named: 1},
	api.NodeList:     {as: asExpression, most: math.MaxInt},
	api.NodeRec:      {as: asExpression, most: math.MaxInt},
	api.NodeKey:      {as: asKey, least: 1, most: 1, named: 1},
	api.NodeBin:      {as: asExpression, least: 2, most: 2},
	api.NodeAnd:      {as: asExpression, least: 2, most: 2},
	api.NodeOr:       {as: asExpression, least: 2, most: 2},
	api.NodeNot:      {as: asExpression, least: 1, most: 1},
	api.NodeNeg:      {as: asExpression, least: 1, most: 1},
	api.NodeCall:     {as: asExpression, least: 1, most: api.MaxParams + 1},
	api.NodeIndex:    {as: asExpression, least: 2, most: 2},
	api.NodeField:    {as: asExpression, least: 1, most: 1, named: 1},
	api.NodeLambda:   {as: asExpression, least: 1, most: api.MaxParams + 1},
	api.NodeSpawn:    {as: asExpression, least: 1, most: api.MaxParams + 1},
}

// fits: may a node of this kind stand where this is asked for?
func fits(kind, asked int) bool {
	if kind <= 0 || kind >= len(shapes) {
		return false
	}
	switch asked {
	case asName:
		return kind == api.NodeName
	case asBlock:
		return kind == api.NodeBlock
	case asElse:
		return kind == api.NodeBlock || kind == api.NodeIf
	case asTarget:
		return kind == api.NodeName || kind == api.NodeIndex || kind == api.NodeField
	}
	return shapes[kind].as == asked
}

// wellMade: are the fields of a node, of a kind that there is, as they must be?
func wellMade(n api.Node) bool {
	s := shapes[n.Kind]
	if n.N < s.least || n.N > s.most || s.named == 1 && !lex.Name(n.Text) {
		return false
	}
	switch n.Kind {
	case api.NodeInt:
		return n.Num >= 0 && n.Num <= api.MaxInt
	case api.NodeBin:
		return isBinary(n.Text)
	case api.NodeFn, api.NodeLambda:
		return n.Num == n.N-1
	}
	return true
}

// isBinary: is it one of the eleven signs between two?
func isBinary(sign string) bool {
	switch sign {
	case "+", "-", "*", "/", "%", "==", "!=", "<", "<=", ">", ">=":
		return true
	}
	return false
}

// unfinished is a node of which some parts, from the first on, have come.
type unfinished struct {
	node api.Node
	came int
}

// withoutFinished leaves out, from the innermost on, what is whole.
func withoutFinished(about []unfinished) []unfinished {
	for len(about) > 0 && about[len(about)-1].came == about[len(about)-1].node.N {
		about = about[:len(about)-1]
	}
	return about
}

// step goes on to the next part, and tells what is asked for there.
func (u *unfinished) step() int {
	i := u.came
	u.came++
	switch u.node.Kind {
	case api.NodeProg, api.NodeBlock:
		return asStatement
	case api.NodeTry:
		return asBlock
	case api.NodeRec:
		return asKey
	case api.NodeSet:
		return [...]int{asTarget, asExpression}[i]
	case api.NodeIf, api.NodeWhile:
		return [...]int{asExpression, asBlock, asElse}[i]
	case api.NodeFn, api.NodeLambda:
		if i < u.node.Num {
			return asName
		}
		return asBlock
	}
	return asExpression
}
