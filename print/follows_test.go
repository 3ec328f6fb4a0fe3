package print

import (
	"math"
	"math/rand"
	"slices"
	"strconv"
	"strings"
	"testing"

	"jacquard/api"
	"jacquard/parse"
	"jacquard/show"
)

// tree is a program that is drawn.
type tree struct {
	api.Node
	parts []*tree
}

func (x *tree) list() []api.Node {
	x.N = len(x.parts)
	l := []api.Node{x.Node}
	for _, y := range x.parts {
		l = append(l, y.list()...)
	}
	return l
}

// drawer draws programs of at most so many levels.
type drawer struct{ *rand.Rand }

func (d drawer) grown(kind int, text string, parts ...*tree) *tree {
	return &tree{Node: api.Node{Kind: kind, Text: text}, parts: parts}
}

func (d drawer) one(texts ...string) string { return texts[d.Intn(len(texts))] }

func (d drawer) name() string { return d.one("a", "b", "c", "_x", "Y9", "print", "iff", "notx") }

func (d drawer) some(most int, each func() *tree) (parts []*tree) {
	for range d.Intn(most + 1) {
		parts = append(parts, each())
	}
	return parts
}

func (d drawer) block(deep int) *tree {
	return d.grown(api.NodeBlock, "", d.some(2, func() *tree { return d.statement(deep) })...)
}

func (d drawer) fun(kind int, text string, deep int) *tree {
	names := d.some(3, func() *tree { return d.grown(api.NodeName, d.name()) })
	x := d.grown(kind, text, append(names, d.block(deep))...)
	x.Num = len(names)
	return x
}

func (d drawer) statement(deep int) *tree {
	deep--
	e := func() *tree { return d.expression(deep) }
	if deep < 0 {
		return d.grown(api.NodeBreak, "")
	}
	switch kind := api.NodeBlock + d.Intn(api.NodeExpr-api.NodeBlock+3); kind {
	case api.NodeBlock:
		return d.block(deep)
	case api.NodeVar:
		return d.grown(kind, d.name(), e())
	case api.NodeSet:
		return d.grown(kind, "", d.target(deep), e())
	case api.NodeIf:
		return d.choice(deep)
	case api.NodeWhile:
		return d.grown(kind, "", e(), d.block(deep))
	case api.NodeBreak, api.NodeContinue:
		return d.grown(kind, "")
	case api.NodeReturn:
		return d.grown(kind, "", d.some(1, e)...)
	case api.NodeThrow:
		return d.grown(kind, "", e())
	case api.NodeTry:
		return d.grown(kind, d.name(), d.block(deep), d.block(deep))
	case api.NodeFn:
		return d.fun(kind, d.name(), deep)
	default:
		return d.grown(api.NodeExpr, "", e())
	}
}

func (d drawer) choice(deep int) *tree {
	x := d.grown(api.NodeIf, "", d.expression(deep), d.block(deep))
	switch d.Intn(4) {
	case 0:
		x.parts = append(x.parts, d.block(deep))
	case 1:
		x.parts = append(x.parts, d.choice(deep))
	}
	return x
}

func (d drawer) target(deep int) *tree {
	for {
		if x := d.expression(deep); x.Kind == api.NodeName || x.Kind == api.NodeIndex || x.Kind == api.NodeField {
			return x
		}
	}
}

func (d drawer) leaf() *tree {
	switch kind := api.NodeInt + d.Intn(api.NodeName-api.NodeInt+2); kind {
	case api.NodeInt:
		x := d.grown(kind, "")
		x.Num = []int{0, 1, 42, api.MaxInt}[d.Intn(4)]
		return x
	case api.NodeStr:
		return d.grown(kind, d.one("", "a", "+", "\n", "\"", "\\x", "{", "\xff\x00"))
	case api.NodeName:
		return d.grown(kind, d.name())
	case api.NodeName + 1:
		return d.grown(api.NodeRec, "")
	default:
		return d.grown(kind, "")
	}
}

func (d drawer) expression(deep int) *tree {
	deep--
	if deep < 0 || d.Intn(6) == 0 {
		return d.leaf()
	}
	e := func() *tree { return d.expression(deep) }
	switch kind := api.NodeList + d.Intn(api.NodeSpawn-api.NodeList+1); kind {
	case api.NodeList:
		return d.grown(kind, "", d.some(3, e)...)
	case api.NodeRec:
		return d.grown(kind, "", d.some(3, func() *tree { return d.grown(api.NodeKey, d.name(), e()) })...)
	case api.NodeKey, api.NodeBin:
		return d.grown(api.NodeBin, d.one("+", "-", "*", "/", "%", "==", "!=", "<", "<=", ">", ">="), e(), e())
	case api.NodeAnd, api.NodeOr, api.NodeIndex:
		return d.grown(kind, "", e(), e())
	case api.NodeNot, api.NodeNeg:
		return d.grown(kind, "", e())
	case api.NodeField:
		return d.grown(kind, d.name(), e())
	case api.NodeLambda:
		return d.fun(kind, "", deep)
	default: // Call, Spawn
		return d.grown(kind, "", append([]*tree{e()}, d.some(3, e)...)...)
	}
}

func (d drawer) program(deep int) *tree {
	return d.grown(api.NodeProg, "", d.some(4, func() *tree { return d.statement(deep) })...)
}

// stopIfFailed: one of many that are drawn tells enough.
func stopIfFailed(t *testing.T) {
	t.Helper()
	if t.Failed() {
		t.FailNow()
	}
}

// The model: texts put together from texts, of trees.
func modelRow(parts []*tree, text func(*tree) string) string {
	var texts []string
	for _, x := range parts {
		texts = append(texts, text(x))
	}
	return strings.Join(texts, ", ")
}

func modelBlock(x *tree, blanks string) string {
	return "{\n" + modelLines(x, blanks+"  ") + blanks + "}"
}

func modelLines(x *tree, blanks string) string {
	text := ""
	for _, y := range x.parts {
		text += blanks + modelStatement(y, blanks) + "\n"
	}
	return text
}

func modelFun(x *tree, blanks string) string {
	last := len(x.parts) - 1
	return "(" + modelRow(x.parts[:last], func(y *tree) string { return y.Text }) + ") " + modelBlock(x.parts[last], blanks)
}

func modelFirst(x *tree, blanks string) string {
	text := modelExpression(x, 0, blanks)
	if text[0] == '{' {
		return "(" + text + ")"
	}
	return text
}

func modelStatement(x *tree, blanks string) string {
	e := func(i int) string { return modelExpression(x.parts[i], 0, blanks) }
	b := func(i int) string { return modelBlock(x.parts[i], blanks) }
	switch x.Kind {
	case 2:
		return modelBlock(x, blanks)
	case 3:
		return "var " + x.Text + " = " + e(0) + ";"
	case 4:
		return modelFirst(x.parts[0], blanks) + " = " + e(1) + ";"
	case 5:
		text := "if " + e(0) + " " + b(1)
		if len(x.parts) == 3 {
			text += " else " + modelStatement(x.parts[2], blanks)
		}
		return text
	case 6:
		return "while " + e(0) + " " + b(1)
	case 7:
		return "break;"
	case 8:
		return "continue;"
	case 9:
		if len(x.parts) == 0 {
			return "return;"
		}
		return "return " + e(0) + ";"
	case 10:
		return "throw " + e(0) + ";"
	case 11:
		return "try " + b(0) + " catch " + x.Text + " " + b(1)
	case 12:
		return "fn " + x.Text + modelFun(x, blanks)
	default:
		return modelFirst(x.parts[0], blanks) + ";"
	}
}

func modelExpression(x *tree, binding int, blanks string) string {
	strength, text := modelBare(x, blanks)
	if strength < binding {
		return "(" + text + ")"
	}
	return text
}

func modelBare(x *tree, blanks string) (int, string) {
	e := func(i, binding int) string { return modelExpression(x.parts[i], binding, blanks) }
	row := func(from int) string {
		return modelRow(x.parts[from:], func(y *tree) string { return modelExpression(y, 0, blanks) })
	}
	switch x.Kind {
	case 14:
		return 9, strconv.Itoa(x.Num)
	case 15:
		return 9, string(show.Quote([]byte(x.Text)))
	case 16, 17, 18:
		return 9, []string{"true", "false", "nil"}[x.Kind-16]
	case 19:
		return 9, x.Text
	case 20:
		return 9, "[" + row(0) + "]"
	case 21:
		return 9, "{" + modelRow(x.parts, func(y *tree) string { return y.Text + ": " + modelExpression(y.parts[0], 0, blanks) }) + "}"
	case 23:
		s := signs()[x.Text]
		return s[0], e(0, s[1]) + " " + x.Text + " " + e(1, s[2])
	case 24:
		return 2, e(0, 2) + " and " + e(1, 3)
	case 25:
		return 1, e(0, 1) + " or " + e(1, 2)
	case 26:
		return 3, "not " + e(0, 3)
	case 27:
		return 7, "-" + e(0, 7)
	case 28:
		return 8, e(0, 8) + "(" + row(1) + ")"
	case 29:
		return 8, e(0, 8) + "[" + e(1, 0) + "]"
	case 30:
		return 8, e(0, 8) + "." + x.Text
	case 31:
		return 9, "fn " + modelFun(x, blanks)
	default:
		return 7, "spawn " + e(0, 8) + "(" + row(1) + ")"
	}
}

// withoutPlaces is a program but for its places.
func withoutPlaces(l []api.Node) []api.Node {
	l = slices.Clone(l)
	for i := range l {
		l[i].At = 0
	}
	return l
}

// wantSameAgain: P7.4.
func wantSameAgain(t *testing.T, l []api.Node) {
	t.Helper()
	text, e := Text(l)
	if e != api.OK {
		t.Fatalf("%v: %d", l, e)
	}
	again, e, at := parse.Parse(text)
	if e != api.OK || !slices.Equal(withoutPlaces(again), withoutPlaces(l)) {
		t.Fatalf("%q: %d at %d\n%v\n%v", text, e, at, again, l)
	}
	wantText(t, again, string(text))
}

// P7.1, P7.2, P7.3, P7.4: programs that are drawn, held against the model, and parsed.
func TestDrawnPrograms(t *testing.T) {
	d := drawer{rand.New(rand.NewSource(71))}
	long := 0
	for i := range 30000 {
		x := d.program(1 + i%6)
		l := x.list()
		want := modelLines(x, "")
		wantText(t, l, want)
		wantSameAgain(t, l)
		stopIfFailed(t)
		if len(want) > 200 {
			long++
		}
	}
	if long < 5000 {
		t.Error(long)
	}
}

// wantAsModel: of each place of a program, whether there is an expression, and its text.
func wantAsModel(t *testing.T, l []api.Node, x *tree, at int) int {
	t.Helper()
	if x.Kind >= 14 && x.Kind != 22 {
		wantExpr(t, l, at, modelExpression(x, 0, ""))
	} else {
		wantExprFault(t, l, at, api.ErrArg)
	}
	at++
	for _, y := range x.parts {
		at = wantAsModel(t, l, y, at)
	}
	return at
}

// P7.1, P7.3: every node of programs that are drawn.
func TestDrawnExpressions(t *testing.T) {
	d := drawer{rand.New(rand.NewSource(73))}
	for i := range 5000 {
		x := d.program(1 + i%5)
		l := x.list()
		if end := wantAsModel(t, l, x, 0); end != len(l) {
			t.Fatal(end)
		}
		wantExprFault(t, l, -1, api.ErrArg)
		wantExprFault(t, l, len(l), api.ErrArg)
		stopIfFailed(t)
	}
}

// P7.1: fields that are not named, and At, play no part, as they play none for parse.Check.
func TestOtherFields(t *testing.T) {
	d := drawer{rand.New(rand.NewSource(72))}
	for i := range 5000 {
		x := d.program(1 + i%5)
		l := x.list()
		for i := range l {
			l[i].At = []int{-1, math.MaxInt, math.MinInt, 3}[d.Intn(4)]
			switch l[i].Kind {
			case api.NodeVar, api.NodeTry, api.NodeFn, api.NodeStr, api.NodeName, api.NodeKey, api.NodeBin, api.NodeField:
			default:
				l[i].Text = d.one("", "if", "x", "\x00", "+")
			}
			switch l[i].Kind {
			case api.NodeInt, api.NodeFn, api.NodeLambda:
			default:
				l[i].Num = []int{-1, math.MaxInt, math.MinInt, 3}[d.Intn(4)]
			}
		}
		wantText(t, l, modelLines(x, ""))
		stopIfFailed(t)
	}
}

// P7.1: programs with something wrong in them: parse.Check's error.
func TestMutated(t *testing.T) {
	d := drawer{rand.New(rand.NewSource(74))}
	seen := map[api.Errno]int{}
	for i := range 20000 {
		l := d.program(1 + i%5).list()
		for range 1 + d.Intn(2) {
			l = d.mutated(l)
		}
		_, want := parse.Check(l)
		seen[want]++
		if want == api.OK {
			if _, e := Text(l); e != api.OK {
				t.Errorf("%v: %d", l, e)
			}
			continue
		}
		wantTextFault(t, l, want)
		wantExprFault(t, l, d.Intn(len(l)+3)-1, want)
		stopIfFailed(t)
	}
	if seen[api.OK] < 500 || seen[api.ErrKind] < 500 || seen[api.ErrArg] < 500 || seen[api.ErrForm] < 500 {
		t.Error(seen)
	}
}

func (d drawer) mutated(l []api.Node) []api.Node {
	if len(l) == 0 {
		return list(node(api.NodeProg, 0))
	}
	i := d.Intn(len(l))
	switch d.Intn(8) {
	case 0:
		l[i].Kind = d.Intn(35) - 1
	case 1:
		l[i].N += d.Intn(5) - 2
	case 2:
		l[i].Num += d.Intn(5) - 2
	case 3:
		l[i].Text = d.one("", "if", "q", "+", "1")
	case 4:
		l = slices.Delete(l, i, i+1)
	case 5:
		l = slices.Insert(l, i, l[d.Intn(len(l))])
	case 6:
		l = l[:i]
	case 7:
		j := d.Intn(len(l))
		l[i], l[j] = l[j], l[i]
	}
	return l
}

// sample is an expression, with a text that has ( ) about each of its parts.
type sample struct {
	nodes []api.Node
	text  string
}

func sampled(n api.Node, text string, parts ...sample) sample {
	x := sample{list(n), text}
	for _, y := range parts {
		x.nodes = append(x.nodes, y.nodes...)
		x.text = strings.Replace(x.text, "$", "("+y.text+")", 1)
	}
	return x
}

// samples are all expressions of so many nodes, of some kinds of each strength.
func samples(size int, smaller [][]sample) (all []sample) {
	if size == 1 {
		return []sample{sampled(name("a"), "a"), sampled(node(api.NodeRec, 0), "{}")}
	}
	for _, x := range smaller[size-1] {
		all = append(all, sampled(node(api.NodeNot, 1), "not $", x), sampled(node(api.NodeNeg, 1), "-$", x), sampled(named(api.NodeField, 1, "b"), "$.b", x), sampled(node(api.NodeList, 1), "[$]", x), sampled(node(api.NodeCall, 1), "$()", x), sampled(node(api.NodeSpawn, 1), "spawn $()", x))
	}
	for left := 1; left < size-1; left++ {
		for _, x := range smaller[left] {
			for _, y := range smaller[size-1-left] {
				all = append(all, sampled(node(api.NodeOr, 2), "$ or $", x, y), sampled(node(api.NodeAnd, 2), "$ and $", x, y), sampled(node(api.NodeIndex, 2), "$[$]", x, y), sampled(node(api.NodeCall, 2), "$($)", x, y))
				for _, sign := range []string{"<", "-", "/"} {
					all = append(all, sampled(named(api.NodeBin, 2, sign), "$ "+sign+" $", x, y))
				}
			}
		}
	}
	return all
}

// P7.4: every small expression, parsed from a text with every ( ) that may be, as a statement, and as what is set.
func TestEverySmallExpression(t *testing.T) {
	bySize := [][]sample{nil}
	for size := 1; size <= 5; size++ {
		bySize = append(bySize, samples(size, bySize))
		for _, x := range bySize[size] {
			l := parsed(t, "("+x.text+");")
			if want := shown(x.nodes...); !slices.Equal(withoutPlaces(l), want) {
				t.Fatalf("%q: %v", x.text, l)
			}
			wantSameAgain(t, l)
			switch x.nodes[0].Kind {
			case api.NodeName, api.NodeIndex, api.NodeField:
				wantSameAgain(t, parsed(t, "("+x.text+") = ("+x.text+");"))
			}
			stopIfFailed(t)
		}
	}
	if n := len(bySize[5]); n != 9424 {
		t.Error(n)
	}
}

// P7.4: as much nested as may be, of each thing that nests.
func TestDeepest(t *testing.T) {
	for _, c := range []struct {
		begin, middle, end string
	}{
		{"(", "a", ")"}, {"[", "", "]"}, {"-", "a", ""}, {"not ", "a", ""}, {"a[", "a", "]"}, {"a(", "", ")"}, {"{k: ", "a", "}"}, {"a + (", "a", ")"}, {"-(", "a + b", ")"}, {"not (", "a or b", ")"}, {"fn () { return ", "a", "; }"}, {"spawn f(", "", ")"},
	} {
		parses := func(n int) ([]api.Node, bool) {
			l, e, _ := parse.Parse([]byte("x = " + strings.Repeat(c.begin, n) + c.middle + strings.Repeat(c.end, n) + ";"))
			return l, e == api.OK
		}
		most := 0
		for n := range 100 {
			l, ok := parses(n)
			if ok {
				most = n
				wantSameAgain(t, l)
			}
		}
		if most < api.MaxNest/2 || most > api.MaxNest {
			t.Error(c, most)
		}
	}
	for _, begin := range []string{"{", "if a {", "while a {", "fn f() {", "try {} catch e {", "if a {} else {"} {
		for n := range api.MaxNest {
			l := parsed(t, strings.Repeat(begin, n)+strings.Repeat("}", n))
			wantSameAgain(t, l)
		}
	}
	l := parsed(t, "if a {}"+strings.Repeat(" else if a {}", 2000))
	wantSameAgain(t, l)
	l = parsed(t, "a"+strings.Repeat(".a", 5000)+strings.Repeat(" - a", 3000)+";")
	wantSameAgain(t, l)
}

// P7.4: blanks, remarks and ( ) that are not needed are gone.
func TestOneWay(t *testing.T) {
	d := drawer{rand.New(rand.NewSource(75))}
	for range 3000 {
		l := d.program(4).list()
		text, _ := Text(l)
		var other []byte
		inString := false
		for i, c := range text {
			if c == '"' && (i == 0 || text[i-1] != '\\' || i > 1 && text[i-2] == '\\') {
				inString = !inString
			}
			if (c == ' ' || c == '\n') && !inString {
				other = append(other, d.one(" ", "\n", "\t", "\r\n", "# x \"{\n", "  ")...)
				continue
			}
			other = append(other, c)
		}
		wantText(t, parsed(t, string(other)), string(text))
		stopIfFailed(t)
	}
	wantPrinted(t, "# a\n((a))=(((b)));#b", "a = b;\n")
	wantPrinted(t, "x\n=\n(1)\n+\n((2))\n;\n", "x = 1 + 2;\n")
}
