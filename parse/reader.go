package parse

import "jacquard/api"

// fault is what the reader gives up with; Parse catches it.
type fault struct {
	e  api.Errno
	at int
}

// reader goes through tokens, one ahead.
type reader struct {
	tokens     []api.Token
	next       int
	open       int // how many ( [ { - not spawn are
	expression level
}

func newReader(tokens []api.Token) *reader {
	r := &reader{tokens: tokens}
	r.expression = r.levels()
	return r
}

func (r *reader) token() api.Token { return r.tokens[r.next] }

// fail gives up at the token that is next.
func (r *reader) fail(e api.Errno) { panic(fault{e: e, at: r.token().At}) }

// is: the next token is this word or sign (a string may say the same).
func (r *reader) is(text string) bool {
	t := r.token()
	return (t.Kind == api.TokWord || t.Kind == api.TokSign) && t.Text == text
}

func (r *reader) isKind(kind int) bool { return r.token().Kind == kind }

// take goes over a token: never over the end, which is of no form that is asked for.
func (r *reader) take() api.Token {
	t := r.token()
	r.next++
	return t
}

// want takes a word or a sign, and tells its place.
func (r *reader) want(text string) int {
	if !r.is(text) {
		r.fail(api.ErrForm)
	}
	return r.take().At
}

func (r *reader) wantName() api.Token {
	if !r.isKind(api.TokName) {
		r.fail(api.ErrForm)
	}
	return r.take()
}

// enter takes a word or a sign that is open from then on, and tells its place.
func (r *reader) enter(text string) int {
	if r.is(text) && r.open == api.MaxNest {
		r.fail(api.ErrMany)
	}
	r.open++
	return r.want(text)
}

// leave takes the end of the ( [ or { that was opened last.
func (r *reader) leave(text string) {
	r.want(text)
	r.open--
}

// row reads what stands with commas between two signs; the one that reads is told how many were ahead.
func (r *reader) row(begin, end string, read func(ahead int) *part) []*part {
	var parts []*part
	r.enter(begin)
	if !r.is(end) {
		parts = append(parts, read(0))
		for r.is(",") {
			r.take()
			parts = append(parts, read(len(parts)))
		}
	}
	r.leave(end)
	return parts
}

// parameter: the bound is asked of a name alone, since what is none is at fault by its form.
func (r *reader) parameter(ahead int) *part {
	if ahead == api.MaxParams && r.isKind(api.TokName) {
		r.fail(api.ErrMany)
	}
	t := r.wantName()
	return madeNamed(api.NodeName, t.Text, t.At)
}

// withBody reads the parameters and the block of a function.
func (r *reader) withBody(x *part) *part {
	x.parts = r.row("(", ")", r.parameter)
	x.node.Num = len(x.parts)
	x.parts = append(x.parts, r.block())
	return x
}
