package parse

import "jacquard/api"

func (r *reader) program() *part {
	x := made(api.NodeProg, 0)
	for !r.isKind(api.TokEnd) {
		x.parts = append(x.parts, r.statement())
	}
	return x
}

func (r *reader) block() *part {
	x := made(api.NodeBlock, r.enter("{"))
	for !r.is("}") {
		x.parts = append(x.parts, r.statement())
	}
	r.leave("}")
	return x
}

func (r *reader) statement() *part {
	switch {
	case r.is("{"):
		return r.block()
	case r.is("var"):
		return r.variable()
	case r.is("if"):
		return r.choice()
	case r.is("while"):
		return made(api.NodeWhile, r.want("while"), r.expression(), r.block())
	case r.is("break"):
		return r.ended(made(api.NodeBreak, r.want("break")))
	case r.is("continue"):
		return r.ended(made(api.NodeContinue, r.want("continue")))
	case r.is("return"):
		return r.result()
	case r.is("throw"):
		return r.ended(made(api.NodeThrow, r.want("throw"), r.expression()))
	case r.is("try"):
		return r.attempt()
	case r.is("fn") && r.tokens[r.next+1].Kind == api.TokName:
		return r.function()
	}
	return r.expressionOrSet()
}

// ended reads the ; behind a statement.
func (r *reader) ended(x *part) *part {
	r.want(";")
	return x
}

func (r *reader) variable() *part {
	at := r.want("var")
	name := r.wantName().Text
	r.want("=")
	return r.ended(madeNamed(api.NodeVar, name, at, r.expression()))
}

func (r *reader) choice() *part {
	x := made(api.NodeIf, r.want("if"), r.expression(), r.block())
	if !r.is("else") {
		return x
	}
	r.take()
	if r.is("if") {
		x.parts = append(x.parts, r.choice())
	} else {
		x.parts = append(x.parts, r.block())
	}
	return x
}

func (r *reader) result() *part {
	x := made(api.NodeReturn, r.want("return"))
	if !r.is(";") {
		x.parts = append(x.parts, r.expression())
	}
	return r.ended(x)
}

func (r *reader) attempt() *part {
	at := r.want("try")
	tried := r.block()
	r.want("catch")
	name := r.wantName().Text
	return madeNamed(api.NodeTry, name, at, tried, r.block())
}

func (r *reader) function() *part {
	at := r.want("fn")
	name := r.wantName().Text
	return r.withBody(madeNamed(api.NodeFn, name, at))
}

// expressionOrSet: a = behind what is no target is at fault as what should be a ;.
func (r *reader) expressionOrSet() *part {
	x := r.expression()
	if x.isTarget() && r.is("=") {
		r.take()
		return r.ended(made(api.NodeSet, x.node.At, x, r.expression()))
	}
	return r.ended(made(api.NodeExpr, x.node.At, x))
}
