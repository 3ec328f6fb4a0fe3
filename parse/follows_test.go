package parse

import (
	"math/rand"
	"slices"
	"strconv"
	"strings"
	"testing"

	"jacquard/api"
)

// tree is a program that is drawn, with its places once it is written.
type tree struct {
	api.Node
	parts []*tree
}

func (x *tree) list() []api.Node {
	x.N = len(x.parts)
	l := []api.Node{x.Node}
	for _, y := range x.parts {
		l = append(l, y.list()...)
	}
	return l
}

// drawer draws programs of at most so many levels.
type drawer struct{ *rand.Rand }

func (d drawer) grown(kind int, text string, parts ...*tree) *tree {
	return &tree{Node: api.Node{Kind: kind, Text: text}, parts: parts}
}

func (d drawer) one(texts string) string {
	all := strings.Fields(texts)
	return all[d.Intn(len(all))]
}

func (d drawer) name() string { return d.one("a b c _x Y9 print iff notx") }

func (d drawer) some(most int, each func() *tree) (parts []*tree) {
	for range d.Intn(most + 1) {
		parts = append(parts, each())
	}
	return parts
}

func (d drawer) block(deep int) *tree {
	return d.grown(api.NodeBlock, "", d.some(2, func() *tree { return d.statement(deep) })...)
}

func (d drawer) fun(kind int, text string, deep int) *tree {
	names := d.some(2, func() *tree { return d.grown(api.NodeName, d.name()) })
	if d.Intn(30) == 0 {
		names = d.some(18, func() *tree { return d.grown(api.NodeName, d.name()) })
	}
	x := d.grown(kind, text, append(names, d.block(deep))...)
	x.Num = len(names)
	return x
}

func (d drawer) statement(deep int) *tree {
	deep--
	e := func() *tree { return d.expression(deep) }
	if deep < 0 {
		return d.grown(api.NodeBreak, "")
	}
	switch kind := api.NodeBlock + d.Intn(api.NodeExpr-api.NodeBlock+1); kind {
	case api.NodeBlock:
		return d.block(deep)
	case api.NodeVar:
		return d.grown(kind, d.name(), e())
	case api.NodeSet:
		return d.grown(kind, "", d.target(deep), e())
	case api.NodeIf:
		return d.choice(deep)
	case api.NodeWhile:
		return d.grown(kind, "", e(), d.block(deep))
	case api.NodeReturn:
		return d.grown(kind, "", d.some(1, e)...)
	case api.NodeThrow, api.NodeExpr:
		return d.grown(kind, "", e())
	case api.NodeTry:
		return d.grown(kind, d.name(), d.block(deep), d.block(deep))
	case api.NodeFn:
		return d.fun(kind, d.name(), deep)
	default:
		return d.grown(kind, "")
	}
}

func (d drawer) choice(deep int) *tree {
	x := d.grown(api.NodeIf, "", d.expression(deep), d.block(deep))
	switch d.Intn(4) {
	case 0:
		x.parts = append(x.parts, d.block(deep))
	case 1:
		x.parts = append(x.parts, d.choice(deep))
	}
	return x
}

func (d drawer) target(deep int) *tree {
	for {
		if x := d.expression(deep); x.Kind == api.NodeName || x.Kind == api.NodeIndex || x.Kind == api.NodeField {
			return x
		}
	}
}

func (d drawer) leaf() *tree {
	switch kind := api.NodeInt + d.Intn(api.NodeName-api.NodeInt+1); kind {
	case api.NodeInt:
		x := d.grown(kind, "")
		x.Num = []int{0, 1, 42, api.MaxInt}[d.Intn(4)]
		return x
	case api.NodeStr:
		return d.grown(kind, []string{"", "a", "+", "=", ")", "if", "{"}[d.Intn(7)])
	case api.NodeName:
		return d.grown(kind, d.name())
	default:
		return d.grown(kind, "")
	}
}

func (d drawer) expression(deep int) *tree {
	deep--
	if deep < 0 || d.Intn(5) == 0 {
		return d.leaf()
	}
	e := func() *tree { return d.expression(deep) }
	switch kind := api.NodeList + d.Intn(api.NodeSpawn-api.NodeList+1); kind {
	case api.NodeList:
		return d.grown(kind, "", d.some(3, e)...)
	case api.NodeRec:
		return d.grown(kind, "", d.some(3, func() *tree { return d.grown(api.NodeKey, d.name(), e()) })...)
	case api.NodeKey, api.NodeBin:
		return d.grown(api.NodeBin, d.one("+ - * / % == != < <= > >="), e(), e())
	case api.NodeAnd, api.NodeOr, api.NodeIndex:
		return d.grown(kind, "", e(), e())
	case api.NodeNot, api.NodeNeg:
		return d.grown(kind, "", e())
	case api.NodeField:
		return d.grown(kind, d.name(), e())
	case api.NodeLambda:
		return d.fun(kind, "", deep)
	default: // Call, Spawn
		x := d.grown(kind, "", append([]*tree{e()}, d.some(3, e)...)...)
		if d.Intn(30) == 0 {
			x.parts = append([]*tree{e()}, d.some(18, d.leaf)...)
		}
		return x
	}
}

// drawProgram may have more arguments and parameters than there may be: what is written from it tells where.
func drawProgram(draw *rand.Rand, deep int) *tree {
	d := drawer{draw}
	return d.grown(api.NodeProg, "", d.some(4, func() *tree { return d.statement(deep) })...)
}

// writer writes a program as a text, sets its places, and keeps the first thing that is too much.
type writer struct {
	draw   *rand.Rand
	text   []byte
	open   int
	beyond int  // the place of what is too much; -1: nothing is
	marked bool // the next token is
}

// put writes a token, with some blanks ahead of it, and tells its place.
func (w *writer) put(token string) int {
	gaps := []string{" ", " ", "\n", "\t", "\r\n", "  ", "# x ;(\n"}
	if n := len(w.text); w.draw.Intn(3) == 0 || n > 0 && joins(w.text[n-1], token[0]) {
		w.text = append(w.text, gaps[w.draw.Intn(len(gaps))]...)
	}
	at := len(w.text)
	if w.marked && w.beyond < 0 {
		w.beyond = at
	}
	w.marked = false
	w.text = append(w.text, token...)
	return at
}

// joins: would two bytes be of one token?
func joins(a, b byte) bool {
	letter := func(c byte) bool {
		return c == '_' || '0' <= c && c <= '9' || 'a' <= c|0x20 && c|0x20 <= 'z'
	}
	return letter(a) && letter(b) || strings.IndexByte("=!<>", a) >= 0 && b == '='
}

// begin writes what is open from then on.
func (w *writer) begin(token string) int {
	if w.open == api.MaxNest {
		w.marked = true
	}
	w.open++
	return w.put(token)
}

func (w *writer) end(token string) {
	w.put(token)
	w.open--
}

// row: those beyond a bound are too much, at their first token.
func (w *writer) row(begin, end string, parts []*tree, bound int, write func(*tree)) int {
	at := w.begin(begin)
	for i, x := range parts {
		if i > 0 {
			w.put(",")
		}
		w.marked = i == bound
		write(x)
	}
	w.end(end)
	return at
}

const unbound = 1 << 30

func (w *writer) any(x *tree) { w.expression(x, 0) }

func (w *writer) key(x *tree) {
	x.At = w.put(x.Text)
	w.put(":")
	w.any(x.parts[0])
}

func (w *writer) plainName(x *tree) { x.At = w.put(x.Text) }

func (w *writer) block(x *tree) {
	x.At = w.begin("{")
	w.statements(x)
	w.end("}")
}

func (w *writer) statements(x *tree) {
	for _, y := range x.parts {
		w.statement(y)
	}
}

func (w *writer) statement(x *tree) {
	switch x.Kind {
	case api.NodeBlock:
		w.block(x)
	case api.NodeVar:
		x.At = w.put("var")
		w.put(x.Text)
		w.put("=")
		w.ended(x.parts[0])
	case api.NodeSet:
		w.first(x.parts[0])
		x.At = x.parts[0].At
		w.put("=")
		w.ended(x.parts[1])
	case api.NodeIf:
		w.choice(x)
	case api.NodeWhile:
		x.At = w.put("while")
		w.expression(x.parts[0], 0)
		w.block(x.parts[1])
	case api.NodeTry:
		x.At = w.put("try")
		w.block(x.parts[0])
		w.put("catch")
		w.put(x.Text)
		w.block(x.parts[1])
	case api.NodeFn:
		x.At = w.put("fn")
		w.put(x.Text)
		w.fun(x)
	case api.NodeExpr:
		w.first(x.parts[0])
		x.At = x.parts[0].At
		w.put(";")
	default:
		x.At = w.put(map[int]string{api.NodeBreak: "break", api.NodeContinue: "continue", api.NodeReturn: "return", api.NodeThrow: "throw"}[x.Kind])
		for _, y := range x.parts {
			w.expression(y, 0)
		}
		w.put(";")
	}
}

func (w *writer) choice(x *tree) {
	x.At = w.put("if")
	w.expression(x.parts[0], 0)
	w.block(x.parts[1])
	if len(x.parts) == 2 {
		return
	}
	w.put("else")
	if x.parts[2].Kind == api.NodeIf {
		w.choice(x.parts[2])
	} else {
		w.block(x.parts[2])
	}
}

func (w *writer) ended(x *tree) {
	w.expression(x, 0)
	w.put(";")
}

// first is an expression that a statement begins with: not with a {.
func (w *writer) first(x *tree) {
	for left := x; ; left = left.parts[0] {
		switch left.Kind {
		case api.NodeRec:
			w.inParens(x)
			return
		case api.NodeBin, api.NodeAnd, api.NodeOr, api.NodeCall, api.NodeIndex, api.NodeField:
			continue
		}
		break
	}
	w.expression(x, 0)
}

func (w *writer) inParens(x *tree) {
	w.begin("(")
	w.expression(x, 0)
	w.end(")")
}

func (w *writer) fun(x *tree) {
	w.row("(", ")", x.parts[:len(x.parts)-1], api.MaxParams, w.plainName)
	w.block(x.parts[len(x.parts)-1])
}

// binding is how strongly an expression binds, and what it asks of its two sides.
func binding(x *tree) (own, left, right int) {
	switch x.Kind {
	case api.NodeOr:
		return 1, 1, 2
	case api.NodeAnd:
		return 2, 2, 3
	case api.NodeNot:
		return 3, 0, 3
	case api.NodeBin:
		switch x.Text {
		case "+", "-":
			return 5, 5, 6
		case "*", "/", "%":
			return 6, 6, 7
		}
		return 4, 5, 5
	case api.NodeNeg, api.NodeSpawn:
		return 7, 0, 7
	case api.NodeCall, api.NodeIndex, api.NodeField:
		return 8, 8, 0
	}
	return 9, 0, 0
}

func (w *writer) expression(x *tree, asked int) {
	own, left, right := binding(x)
	if own < asked || w.draw.Intn(12) == 0 {
		w.inParens(x)
		return
	}
	switch x.Kind {
	case api.NodeOr, api.NodeAnd, api.NodeBin:
		w.expression(x.parts[0], left)
		x.At = x.parts[0].At
		w.put(map[int]string{api.NodeOr: "or", api.NodeAnd: "and", api.NodeBin: x.Text}[x.Kind])
		w.expression(x.parts[1], right)
	case api.NodeNot, api.NodeNeg:
		x.At = w.begin(map[int]string{api.NodeNot: "not", api.NodeNeg: "-"}[x.Kind])
		w.expression(x.parts[0], right)
		w.open--
	case api.NodeSpawn:
		x.At = w.begin("spawn")
		w.expression(x.parts[0], 8)
		w.row("(", ")", x.parts[1:], api.MaxParams, w.any)
		w.open--
	case api.NodeCall, api.NodeIndex, api.NodeField:
		w.behind(x)
	default:
		w.single(x)
	}
}

func (w *writer) behind(x *tree) {
	w.expression(x.parts[0], 8)
	x.At = x.parts[0].At
	switch x.Kind {
	case api.NodeCall:
		w.row("(", ")", x.parts[1:], api.MaxParams, w.any)
	case api.NodeIndex:
		w.row("[", "]", x.parts[1:], unbound, w.any)
	case api.NodeField:
		w.put(".")
		w.put(x.Text)
	}
}

func (w *writer) single(x *tree) {
	switch x.Kind {
	case api.NodeInt:
		x.At = w.put(strconv.Itoa(x.Num))
	case api.NodeStr:
		x.At = w.put(`"` + x.Text + `"`)
	case api.NodeName:
		x.At = w.put(x.Text)
	case api.NodeList:
		x.At = w.row("[", "]", x.parts, unbound, w.any)
	case api.NodeRec:
		x.At = w.row("{", "}", x.parts, unbound, w.key)
	case api.NodeLambda:
		x.At = w.put("fn")
		w.fun(x)
	default:
		x.At = w.put(map[int]string{api.NodeTrue: "true", api.NodeFalse: "false", api.NodeNil: "nil"}[x.Kind])
	}
}

func written(draw *rand.Rand, x *tree) *writer {
	w := &writer{draw: draw, beyond: -1}
	w.statements(x)
	return w
}

// wantWritten holds what is parsed of a text against the program that it was written from.
func wantWritten(t *testing.T, w *writer, x *tree) {
	t.Helper()
	if len(w.text) > api.MaxSource {
		t.Fatal(len(w.text))
	}
	if w.beyond >= 0 {
		wantFault(t, string(w.text), api.ErrMany, w.beyond)
		return
	}
	got, e, at := Parse(w.text)
	if want := x.list(); e != api.OK || at != len(w.text) || !slices.Equal(got, want) {
		t.Fatalf("%q: %d at %d\n%v\n%v", w.text, e, at, got, want)
	}
	wantPlaces(t, w.text, got)
}

// P6.7: of what is parsed.
func wantPlaces(t *testing.T, text []byte, l []api.Node) {
	t.Helper()
	if at, e := Check(l); at != 0 || e != api.OK {
		t.Fatalf("%q: checked: %d at %d", text, e, at)
	}
	var into func(i int) int
	into = func(i int) int {
		behind := i + 1
		for range l[i].N {
			if l[behind].At < l[i].At {
				t.Fatalf("%q: %d is ahead of %d", text, behind, i)
			}
			behind = into(behind)
		}
		if end, e := Behind(l, i); end != behind || e != api.OK {
			t.Fatalf("%q: behind %d: %d, %d", text, i, end, e)
		}
		return behind
	}
	into(0)
	for _, n := range l {
		if n.At < 0 || n.At >= max(len(text), 1) {
			t.Fatalf("%q: no place: %v", text, n)
		}
	}
}

// P6.1, P6.2, P6.3, P6.4, P6.7: programs that are drawn, and written in many ways.
func TestDrawnPrograms(t *testing.T) {
	draw := rand.New(rand.NewSource(61))
	beyond := 0
	for i := range 20000 {
		x := drawProgram(draw, 1+i%5)
		w := written(draw, x)
		wantWritten(t, w, x)
		if w.beyond >= 0 {
			beyond++
		}
	}
	if beyond < 50 || beyond > 10000 {
		t.Error(beyond)
	}
}

// about puts an expression into another one, or into a statement of a function.
func (d drawer) about(x *tree) *tree {
	y := d.expression(1)
	for len(y.parts) == 0 {
		y = d.expression(1)
	}
	if y.Kind == api.NodeLambda {
		body := d.statement(1)
		for len(body.parts) == 0 || body.parts[0].Kind < api.NodeInt || body.Kind == api.NodeSet || body.Kind == api.NodeFn {
			body = d.statement(1)
		}
		body.parts[0] = x
		y.parts[len(y.parts)-1].parts = append(y.parts[len(y.parts)-1].parts, body)
		return y
	}
	i := d.Intn(len(y.parts))
	if y.Kind == api.NodeRec {
		y.parts[i].parts[0] = x
	} else {
		y.parts[i] = x
	}
	return y
}

// P6.4: programs nested about as deeply as they may be, some less, some more.
func TestDrawnNests(t *testing.T) {
	draw := rand.New(rand.NewSource(64))
	d := drawer{draw}
	beyond := 0
	for range 6000 {
		x := d.leaf()
		for range 20 + d.Intn(90) {
			x = d.about(x)
		}
		x = d.grown(api.NodeProg, "", d.grown(api.NodeExpr, "", d.leaf()), d.grown(api.NodeVar, "v", x), d.statement(2))
		w := written(draw, x)
		wantWritten(t, w, x)
		if w.beyond >= 0 {
			beyond++
		}
	}
	if beyond < 1000 || beyond > 5000 {
		t.Error(beyond)
	}
}
