package parse

import (
	"slices"

	"jacquard/api"
)

// level reads an expression that binds so strongly, or more so.
type level func() *part

// levels are made from the strongest on; the weakest reads any expression.
func (r *reader) levels() level {
	product := r.fromLeft(r.negated, "*", "/", "%")
	sum := r.fromLeft(product, "+", "-")
	comparison := r.compared(sum, "==", "!=", "<", "<=", ">", ">=")
	both := r.fromLeft(r.denied(comparison), "and")
	return r.fromLeft(both, "or")
}

// fromLeft: any number of these signs, each about all that stands on its left.
func (r *reader) fromLeft(stronger level, signs ...string) level {
	return func() *part {
		x := stronger()
		for r.isOne(signs) {
			x = r.joined(x, stronger)
		}
		return x
	}
}

// compared: at most one of these signs.
func (r *reader) compared(stronger level, signs ...string) level {
	return func() *part {
		x := stronger()
		if r.isOne(signs) {
			x = r.joined(x, stronger)
		}
		return x
	}
}

// denied: any number of nots ahead.
func (r *reader) denied(stronger level) level {
	var own level
	own = func() *part {
		if !r.is("not") {
			return stronger()
		}
		return r.behindOpen(api.NodeNot, "not", own)
	}
	return own
}

// negated: any number of - ahead, or a spawn, which asks for what binds most strongly behind it.
func (r *reader) negated() *part {
	switch {
	case r.is("-"):
		return r.behindOpen(api.NodeNeg, "-", r.negated)
	case r.is("spawn"):
		return r.spawned()
	}
	x, _ := r.thing()
	return x
}

func (r *reader) isOne(signs []string) bool { return slices.ContainsFunc(signs, r.is) }

// joined goes on behind a left side, at the sign.
func (r *reader) joined(left *part, stronger level) *part {
	at := left.node.At
	switch t := r.take(); t.Text {
	case "or":
		return made(api.NodeOr, at, left, stronger())
	case "and":
		return made(api.NodeAnd, at, left, stronger())
	default:
		return madeNamed(api.NodeBin, t.Text, at, left, stronger())
	}
}

// behindOpen reads what a - or a not stands ahead of; it is open until that ends.
func (r *reader) behindOpen(kind int, text string, read level) *part {
	x := made(kind, r.enter(text), read())
	r.open--
	return x
}

// spawned: the call that must stand last is no node of its own.
func (r *reader) spawned() *part {
	at := r.enter("spawn")
	x, isCall := r.thing()
	if !isCall {
		r.fail(api.ErrForm)
	}
	r.open--
	return made(api.NodeSpawn, at, x.parts...)
}

// thing reads one with all calls, [ ] and . behind it, and tells whether the last of these is a call.
func (r *reader) thing() (x *part, isCall bool) {
	x = r.single()
	for {
		at := x.node.At
		switch {
		case r.is("("):
			x = made(api.NodeCall, at, append([]*part{x}, r.row("(", ")", r.argument)...)...)
			isCall = true
		case r.is("["):
			r.enter("[")
			x = made(api.NodeIndex, at, x, r.expression())
			r.leave("]")
			isCall = false
		case r.is("."):
			r.take()
			x = madeNamed(api.NodeField, r.wantName().Text, at, x)
			isCall = false
		default:
			return x, isCall
		}
	}
}

// argument: the bound is asked of what begins an expression alone, since all else is at fault by its form.
func (r *reader) argument(ahead int) *part {
	if ahead == api.MaxParams && r.beginsExpression() {
		r.fail(api.ErrMany)
	}
	return r.expression()
}

func (r *reader) beginsExpression() bool {
	switch r.token().Kind {
	case api.TokName, api.TokInt, api.TokStr:
		return true
	}
	return r.isOne([]string{"true", "false", "nil", "not", "spawn", "fn", "(", "[", "{", "-"})
}

// single reads what has nothing ahead of it or behind it.
func (r *reader) single() *part {
	t := r.token()
	switch {
	case t.Kind == api.TokInt:
		r.take()
		return &part{node: api.Node{Kind: api.NodeInt, Num: t.Num, At: t.At}}
	case t.Kind == api.TokStr:
		r.take()
		return madeNamed(api.NodeStr, t.Text, t.At)
	case t.Kind == api.TokName:
		r.take()
		return madeNamed(api.NodeName, t.Text, t.At)
	case r.is("true"):
		return made(api.NodeTrue, r.want("true"))
	case r.is("false"):
		return made(api.NodeFalse, r.want("false"))
	case r.is("nil"):
		return made(api.NodeNil, r.want("nil"))
	case r.is("["):
		return made(api.NodeList, t.At, r.row("[", "]", r.entry)...)
	case r.is("{"):
		return made(api.NodeRec, t.At, r.row("{", "}", r.key)...)
	case r.is("fn"):
		return r.withBody(made(api.NodeLambda, r.want("fn")))
	}
	return r.inParens()
}

// inParens: ( ) make no node.
func (r *reader) inParens() *part {
	r.enter("(")
	x := r.expression()
	r.leave(")")
	return x
}

func (r *reader) entry(int) *part { return r.expression() }

func (r *reader) key(int) *part {
	t := r.wantName()
	r.want(":")
	return madeNamed(api.NodeKey, t.Text, t.At, r.expression())
}
