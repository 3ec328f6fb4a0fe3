package gen

import (
	"math/rand"
	"strconv"

	"jacquard/api"
)

// drawnName is something that a drawn program has declared. Kinds are n (number), b (bool), s (string), a (array of numbers), r (record), z (complex), and functions that return numbers: g without parameters, f of a number, h of a number, an array and a number.
type drawnName struct {
	text string
	kind byte
}

// drawer draws programs that scope takes, and of which most things are of the kinds that they must be.
type drawer struct {
	*rand.Rand
	l     []api.Node
	wrong int         // so many of a hundred expressions are of another kind
	seen  []drawnName // the innermost last
	first int         // where those of the innermost node that declares begin
	count int
	funs  int // about
	loops int // of the function, about
}

func (d *drawer) put(kind, n int, text string) int {
	d.l = append(d.l, api.Node{Kind: kind, N: n, Text: text, At: 3*len(d.l) + 1})
	return len(d.l) - 1
}

func (d *drawer) one(l string) byte { return l[d.Intn(len(l))] }

func (d *drawer) int() {
	d.l[d.put(api.NodeInt, 0, "")].Num = d.Intn(5)
}

// fresh is a name that is not declared in the innermost node; at times it hides another one.
func (d *drawer) fresh() string {
	if len(d.seen) > 0 && d.Intn(6) == 0 {
		text := d.seen[d.Intn(len(d.seen))].text
		free := true
		for _, s := range d.seen[d.first:] {
			free = free && s.text != text
		}
		if free {
			return text
		}
	}
	d.count++
	return "v" + strconv.Itoa(d.count)
}

// show: from here on a name means what it was declared as here.
func (d *drawer) show(text string, kind byte) { d.seen = append(d.seen, drawnName{text, kind}) }

// known is a name that means something of a kind.
func (d *drawer) known(kind byte) (string, bool) {
	hidden := map[string]bool{}
	var texts []string
	for i := len(d.seen) - 1; i >= 0; i-- {
		s := d.seen[i]
		if s.kind == kind && !hidden[s.text] {
			texts = append(texts, s.text)
		}
		hidden[s.text] = true
	}
	if len(texts) == 0 {
		return "", false
	}
	return texts[d.Intn(len(texts))], true
}

// within draws what is below a node that declares.
func (d *drawer) within(draw func()) {
	first, seen := d.first, len(d.seen)
	d.first = seen
	draw()
	d.first, d.seen = first, d.seen[:seen]
}

func (d *drawer) block(deep int, most int, last func()) {
	d.within(func() {
		at := d.put(api.NodeBlock, 0, "")
		for range d.Intn(most + 1) {
			d.statement(deep - 1)
			d.l[at].N++
		}
		if last != nil {
			last()
			d.l[at].N++
		}
	})
}

func (d *drawer) call(kind int, name string, args string, deep int) {
	d.put(kind, len(args)+1, "")
	d.put(api.NodeName, 0, name)
	for _, k := range []byte(args) {
		d.expression(k, deep-1)
	}
}

func params(kind byte) string {
	switch kind {
	case 'f':
		return "n"
	case 'h':
		return "nan"
	}
	return ""
}

// function draws the node of a Fn or Lambda and what it is made of.
func (d *drawer) function(node int, text string, kind byte, deep int) {
	p := params(kind)
	at := d.put(node, len(p)+1, text)
	d.l[at].Num = len(p)
	d.within(func() {
		for _, k := range []byte(p) {
			param := d.fresh()
			d.put(api.NodeName, 0, param)
			d.show(param, k)
		}
		loops := d.loops
		d.funs, d.loops = d.funs+1, 0
		d.block(deep, 3, func() {
			switch d.Intn(6) {
			case 0:
				d.put(api.NodeBlock, 0, "")
			case 1, 2:
				d.raise()
			default:
				d.put(api.NodeReturn, 1, "")
				d.expression('n', deep-1)
			}
		})
		d.funs, d.loops = d.funs-1, loops
	})
}

func (d *drawer) expression(kind byte, deep int) {
	if d.Intn(100) < d.wrong {
		kind = d.one("nbsarzfgh?")
	}
	if text, is := d.known(kind); is && (deep <= 0 || d.Intn(3) == 0) {
		d.put(api.NodeName, 0, text)
		return
	}
	if deep > 0 && d.Intn(10) == 0 {
		d.put([]int{api.NodeAnd, api.NodeOr}[d.Intn(2)], 2, "")
		d.expression(d.one(string(kind)+"b"), deep-1)
		d.expression(kind, deep-1)
		return
	}
	switch kind {
	case 'n':
		d.number(deep)
	case 'b':
		d.bool(deep)
	case 's':
		d.string(deep)
	case 'a':
		d.array(deep)
	case 'r':
		d.record(deep)
	case 'z':
		d.call(api.NodeCall, "cx", "nn", min(deep, 1))
	case '?':
		d.any(deep)
	default:
		d.function(api.NodeLambda, "", kind, min(deep, 3))
	}
}

func (d *drawer) number(deep int) {
	if deep <= 0 {
		d.int()
		return
	}
	switch d.Intn(12) {
	case 0, 1, 2:
		d.put(api.NodeBin, 2, []string{"+", "-", "*", "/", "%"}[d.Intn(5)])
		d.expression('n', deep-1)
		d.expression('n', deep-1)
	case 3:
		d.put(api.NodeNeg, 1, "")
		d.expression('n', deep-1)
	case 4:
		d.call(api.NodeCall, "len", string(d.one("asr")), deep)
	case 5:
		d.put(api.NodeIndex, 2, "")
		d.expression(d.one("aas"), deep-1)
		d.int()
	case 6:
		d.put(api.NodeField, 1, []string{"x", "y", "w"}[d.Intn(3)])
		d.expression('r', deep-1)
	case 7, 8:
		f := d.one("fgh")
		p := params(f)
		d.put(api.NodeCall, len(p)+1, "")
		d.expression(f, deep-1)
		for _, k := range []byte(p) {
			d.expression(k, deep-1)
		}
	case 9:
		d.call(api.NodeCall, "rand", "n", deep)
	case 10:
		d.call(api.NodeCall, []string{"now", "self"}[d.Intn(2)], "", deep)
	default:
		d.int()
	}
}

func (d *drawer) bool(deep int) {
	if deep <= 0 {
		d.put([]int{api.NodeTrue, api.NodeFalse, api.NodeNil}[d.Intn(3)], 0, "")
		return
	}
	switch d.Intn(5) {
	case 0, 1:
		k := d.one("nns")
		d.put(api.NodeBin, 2, []string{"==", "!=", "<", "<=", ">", ">="}[d.Intn(6)])
		d.expression(k, deep-1)
		d.expression(k, deep-1)
	case 2:
		d.put(api.NodeNot, 1, "")
		d.any(deep - 1)
	case 3:
		d.call(api.NodeCall, "same", "??", deep)
	default:
		d.call(api.NodeCall, "has", "rs", deep)
	}
}

func (d *drawer) string(deep int) {
	if deep <= 0 || d.Intn(3) == 0 {
		d.put(api.NodeStr, 0, []string{"", "x", "y", "print", "z\x00"}[d.Intn(5)])
		return
	}
	switch d.Intn(3) {
	case 0:
		d.put(api.NodeBin, 2, "+")
		d.expression('s', deep-1)
		d.expression('s', deep-1)
	case 1:
		d.call(api.NodeCall, "text", "?", deep)
	default:
		d.call(api.NodeCall, "kind", "?", deep)
	}
}

func (d *drawer) array(deep int) {
	n := d.Intn(4)
	d.put(api.NodeList, n, "")
	for range n {
		d.expression('n', deep-1)
	}
}

func (d *drawer) record(deep int) {
	n := d.Intn(4)
	d.put(api.NodeRec, n, "")
	for k := range n {
		d.put(api.NodeKey, 1, string("xyv"[k]))
		d.expression('n', deep-1)
	}
}

func (d *drawer) any(deep int) {
	if deep > 0 && d.Intn(4) > 0 {
		d.expression(d.one("nbsarzfgh"), deep)
		return
	}
	if len(d.seen) > 0 && d.Intn(2) == 0 {
		d.put(api.NodeName, 0, d.seen[d.Intn(len(d.seen))].text)
		return
	}
	d.put(api.NodeNil, 0, "")
}

func (d *drawer) statement(deep int) {
	if deep <= 0 {
		d.simple()
		return
	}
	switch d.Intn(16) {
	case 0:
		d.block(deep, 3, nil)
	case 1, 2:
		d.variable(deep)
	case 3, 4:
		d.set(deep)
	case 5:
		d.choice(deep)
	case 6, 7:
		d.loop(deep)
	case 8, 9:
		d.try(deep)
	case 10, 11:
		d.named(deep)
	case 12:
		d.put(api.NodeExpr, 1, "")
		d.put(api.NodeSpawn, 2, "")
		d.expression('f', deep-1)
		d.expression('n', deep-1)
	case 13:
		d.jump(deep)
	default:
		d.simple()
	}
}

func (d *drawer) simple() {
	d.put(api.NodeExpr, 1, "")
	switch d.Intn(6) {
	case 0:
		d.any(2)
	case 1:
		d.call(api.NodeCall, "push", "an", 1)
	case 2:
		d.call(api.NodeCall, []string{"yield", "monitor"}[d.Intn(2)], "", 1)
	case 3:
		d.call(api.NodeCall, []string{"sleep", "lock", "recv"}[d.Intn(3)], "n", 1)
	default:
		d.call(api.NodeCall, "print", "?", 2)
	}
}

func (d *drawer) variable(deep int) {
	kind := d.one("nnbsarzfgh")
	text := d.fresh()
	d.put(api.NodeVar, 1, text)
	d.expression(kind, deep-1)
	d.show(text, kind)
}

func (d *drawer) named(deep int) {
	kind := d.one("fgh")
	text := d.fresh()
	d.show(text, kind)
	d.function(api.NodeFn, text, kind, deep-1)
}

func (d *drawer) set(deep int) {
	at := d.put(api.NodeSet, 2, "")
	switch d.Intn(4) {
	case 0:
		d.put(api.NodeIndex, 2, "")
		d.expression('a', deep-1)
		d.int()
		d.expression('n', deep-1)
	case 1:
		d.put(api.NodeField, 1, []string{"x", "u"}[d.Intn(2)])
		d.expression('r', deep-1)
		d.expression('n', deep-1)
	default:
		kind := d.one("nnnbsarf")
		text, is := d.known(kind)
		if !is {
			d.l = d.l[:at]
			d.simple()
			return
		}
		d.put(api.NodeName, 0, text)
		d.expression(kind, deep-1)
	}
}

// raise draws that a number that is known, a function's own or not, is one more.
func (d *drawer) raise() {
	text, is := d.known('n')
	if !is {
		d.put(api.NodeBlock, 0, "")
		return
	}
	d.put(api.NodeSet, 2, "")
	d.put(api.NodeName, 0, text)
	d.put(api.NodeBin, 2, "+")
	d.put(api.NodeName, 0, text)
	d.l[d.put(api.NodeInt, 0, "")].Num = 1
}

func (d *drawer) choice(deep int) {
	n := 2 + d.Intn(2)
	d.put(api.NodeIf, n, "")
	d.expression('b', deep-1)
	d.block(deep, 2, nil)
	if n == 3 && d.Intn(2) == 0 {
		d.choice(deep - 1)
	} else if n == 3 {
		d.block(deep, 2, nil)
	}
}

// loop draws a While that counts, or one that goes on as it is drawn.
func (d *drawer) loop(deep int) {
	if d.Intn(3) == 0 {
		d.while(deep, func() { d.expression('b', deep-1) }, nil)
		return
	}
	d.within(func() {
		d.put(api.NodeBlock, 2, "")
		text := d.fresh()
		d.put(api.NodeVar, 1, text)
		d.put(api.NodeInt, 0, "")
		d.show(text, 'n')
		cond := func() {
			d.put(api.NodeBin, 2, "<")
			d.put(api.NodeName, 0, text)
			d.int()
		}
		d.while(deep, cond, func() {
			d.put(api.NodeSet, 2, "")
			d.put(api.NodeName, 0, text)
			d.put(api.NodeBin, 2, "+")
			d.put(api.NodeName, 0, text)
			d.l[d.put(api.NodeInt, 0, "")].Num = 1
		})
	})
}

func (d *drawer) while(deep int, cond, step func()) {
	d.put(api.NodeWhile, 2, "")
	cond()
	d.loops++
	d.within(func() {
		at := d.put(api.NodeBlock, 0, "")
		if step != nil {
			step()
			d.l[at].N++
		}
		for range d.Intn(3) {
			d.statement(deep - 1)
			d.l[at].N++
		}
		if d.Intn(3) == 0 {
			d.put(api.NodeIf, 2, "")
			d.expression('b', 1)
			d.put(api.NodeBlock, 1, "")
			d.put([]int{api.NodeBreak, api.NodeContinue}[d.Intn(2)], 0, "")
			d.simple()
			d.l[at].N += 2
		}
	})
	d.loops--
}

func (d *drawer) try(deep int) {
	text := d.fresh()
	d.put(api.NodeTry, 2, text)
	d.block(deep, 3, nil)
	d.within(func() {
		d.show(text, d.one("ns"))
		d.block(deep, 2, nil)
	})
}

// jump draws a statement that goes on elsewhere.
func (d *drawer) jump(deep int) {
	switch k := d.Intn(5); {
	case k < 4 && d.loops > 0:
		d.put([]int{api.NodeBreak, api.NodeContinue}[k%2], 0, "")
	case k < 3 && d.funs > 0:
		n := d.Intn(2)
		d.put(api.NodeReturn, n, "")
		if n == 1 {
			d.expression('n', deep-1)
		}
	default:
		d.put(api.NodeThrow, 1, "")
		d.expression(d.one("ns"), deep-1)
	}
}

// program draws one: globals first, then statements.
func (d *drawer) program(deep, wrong int) []api.Node {
	d.l, d.seen, d.first, d.count, d.wrong = nil, nil, 0, 0, wrong
	d.funs, d.loops = 0, 0
	d.put(api.NodeProg, 0, "")
	for range d.Intn(4) {
		if d.Intn(2) == 0 {
			d.variable(deep)
		} else {
			d.named(deep)
		}
		d.l[0].N++
	}
	for range 1 + d.Intn(4) {
		d.statement(deep)
		d.l[0].N++
	}
	return d.l
}
