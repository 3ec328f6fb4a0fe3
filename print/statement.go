package print

import "jacquard/api"

// printer writes nodes in their order: what a node is made of comes right behind it, the left ahead of the right.
type printer struct {
	writer
	rest   []api.Node // what has not been written yet
	blocks int        // about the statement that is being written
}

// newPrinter: every node but the Prog has a byte of its own, at least; so too many of them are too long, and what is left cannot be nested too deeply.
func newPrinter(nodes []api.Node) (*printer, api.Errno) {
	if len(nodes) > api.MaxShow {
		return nil, api.ErrLong
	}
	return &printer{rest: nodes}, api.OK
}

func (p *printer) next() api.Node {
	n := p.rest[0]
	p.rest = p.rest[1:]
	return n
}

// indent begins a line.
func (p *printer) indent() { p.blanks(2 * p.blocks) }

// lines writes so many statements, each on lines of its own.
func (p *printer) lines(n int) {
	for range n {
		p.indent()
		p.statement()
		p.put("\n")
	}
}

func (p *printer) block() { p.braces(p.next().N) }

// braces writes a block about so many statements.
func (p *printer) braces(n int) {
	p.put("{\n")
	p.blocks++
	p.lines(n)
	p.blocks--
	p.indent()
	p.put("}")
}

// statement writes one without the blanks ahead of its first line and the line break behind its last.
func (p *printer) statement() {
	n := p.next()
	switch n.Kind {
	case api.NodeBlock:
		p.braces(n.N)
	case api.NodeVar:
		p.put("var ")
		p.put(n.Text)
		p.put(" = ")
		p.ended()
	case api.NodeSet:
		p.first()
		p.put(" = ")
		p.ended()
	case api.NodeIf:
		p.put("if ")
		p.headed()
		if n.N == 3 {
			p.put(" else ")
			p.statement()
		}
	case api.NodeWhile:
		p.put("while ")
		p.headed()
	case api.NodeBreak:
		p.put("break;")
	case api.NodeContinue:
		p.put("continue;")
	case api.NodeReturn:
		p.result(n.N)
	case api.NodeThrow:
		p.put("throw ")
		p.ended()
	case api.NodeTry:
		p.put("try ")
		p.block()
		p.put(" catch ")
		p.put(n.Text)
		p.put(" ")
		p.block()
	case api.NodeFn:
		p.put("fn ")
		p.put(n.Text)
		p.withBody(n.Num)
	case api.NodeExpr:
		p.first()
		p.put(";")
	}
}

// ended writes an expression that the statement ends with.
func (p *printer) ended() {
	p.any()
	p.put(";")
}

// headed writes an expression and the block behind it.
func (p *printer) headed() {
	p.any()
	p.put(" ")
	p.block()
}

func (p *printer) result(n int) {
	if n == 0 {
		p.put("return;")
		return
	}
	p.put("return ")
	p.ended()
}

// first writes an expression that the statement begins with: with a { ahead it would be read as a block.
func (p *printer) first() {
	if !p.beginsWithBrace() {
		p.any()
		return
	}
	p.put("(")
	p.any()
	p.put(")")
}

// withBody writes a function's parameters and its block.
func (p *printer) withBody(params int) {
	p.row("(", ")", params, p.any)
	p.put(" ")
	p.block()
}
