package print

import (
	"strings"
	"testing"

	"jacquard/api"
)

// inner is an expression, with what it stands as.
type inner struct {
	nodes    []api.Node
	text     string
	strength int
}

// place is where one may stand: nodes ahead and behind, a text with a $ for it.
type place struct {
	ahead, behind []api.Node
	text          string
	binding       int
}

func fun(kind, params int, text string) []api.Node {
	l := list(api.Node{Kind: kind, N: params + 1, Num: params, Text: text})
	for i := range params {
		l = append(l, name([]string{"p", "q", "r"}[i]))
	}
	return append(l, node(api.NodeBlock, 0))
}

// The signs, with their strength and what they ask of their left and their right.
func signs() map[string][3]int {
	return map[string][3]int{
		"+": {5, 5, 6}, "-": {5, 5, 6}, "*": {6, 6, 7}, "/": {6, 6, 7}, "%": {6, 6, 7},
		"==": {4, 5, 5}, "!=": {4, 5, 5}, "<": {4, 5, 5}, "<=": {4, 5, 5}, ">": {4, 5, 5}, ">=": {4, 5, 5},
	}
}

// inners: each kind of expressions, as the chapter says how strong it is. Fields that are not named have what must not be seen.
func inners() []inner {
	all := []inner{
		{list(named(api.NodeOr, 2, "xor"), name("a"), name("b")), "a or b", 1},
		{list(named(api.NodeAnd, 2, "or"), name("a"), name("b")), "a and b", 2},
		{list(named(api.NodeNot, 1, "-"), name("a")), "not a", 3},
		{list(named(api.NodeNeg, 1, "+"), name("a")), "-a", 7},
		{list(named(api.NodeSpawn, 1, "g"), name("f")), "spawn f()", 7},
		{list(node(api.NodeSpawn, 3), name("f"), name("a"), name("b")), "spawn f(a, b)", 7},
		{list(named(api.NodeCall, 1, "g"), name("f")), "f()", 8},
		{list(node(api.NodeCall, 2), name("f"), name("a")), "f(a)", 8},
		{list(node(api.NodeCall, 3), name("f"), name("a"), name("b")), "f(a, b)", 8},
		{list(named(api.NodeIndex, 2, "g"), name("a"), name("b")), "a[b]", 8},
		{list(named(api.NodeField, 1, "b"), name("a")), "a.b", 8},
		{list(api.Node{Kind: api.NodeInt, Num: 0, Text: "7"}), "0", 9},
		{list(api.Node{Kind: api.NodeInt, Num: 12345}), "12345", 9},
		{list(api.Node{Kind: api.NodeInt, Num: api.MaxInt}), "2305843009213693951", 9},
		{list(str("")), `""`, 9},
		{list(str("a\"\\\n\t\r\x00\x1f \x7e\x7f\xff{")), `"a\"\\\n\t\x0d\x00\x1f ~\x7f\xff{"`, 9},
		{list(named(api.NodeTrue, 0, "false")), "true", 9},
		{list(named(api.NodeFalse, 0, "true")), "false", 9},
		{list(named(api.NodeNil, 0, "true")), "nil", 9},
		{list(name("a")), "a", 9},
		{list(name("_A9")), "_A9", 9},
		{list(named(api.NodeList, 0, "x")), "[]", 9},
		{list(node(api.NodeList, 1), name("a")), "[a]", 9},
		{list(node(api.NodeList, 3), name("a"), name("b"), name("c")), "[a, b, c]", 9},
		{list(named(api.NodeRec, 0, "x")), "{}", 9},
		{list(node(api.NodeRec, 1), named(api.NodeKey, 1, "k"), name("a")), "{k: a}", 9},
		{list(node(api.NodeRec, 2), named(api.NodeKey, 1, "k"), name("a"), named(api.NodeKey, 1, "k"), name("b")), "{k: a, k: b}", 9},
		{fun(api.NodeLambda, 0, "f"), "fn () {\n}", 9},
		{fun(api.NodeLambda, 1, ""), "fn (p) {\n}", 9},
		{fun(api.NodeLambda, 3, "if"), "fn (p, q, r) {\n}", 9},
	}
	for sign, s := range signs() {
		all = append(all, inner{list(named(api.NodeBin, 2, sign), name("a"), name("b")), "a " + sign + " b", s[0]})
	}
	return all
}

// places: as the chapter says what each asks for.
func places() []place {
	x, y, z := name("x"), name("y"), name("z")
	all := []place{
		{nil, nil, "$", 0},
		{list(node(api.NodeOr, 2)), list(x), "$ or x", 1},
		{list(node(api.NodeOr, 2), x), nil, "x or $", 2},
		{list(node(api.NodeAnd, 2)), list(x), "$ and x", 2},
		{list(node(api.NodeAnd, 2), x), nil, "x and $", 3},
		{list(node(api.NodeNot, 1)), nil, "not $", 3},
		{list(node(api.NodeNeg, 1)), nil, "-$", 7},
		{list(node(api.NodeCall, 1)), nil, "$()", 8},
		{list(node(api.NodeCall, 3)), list(x, y), "$(x, y)", 8},
		{list(node(api.NodeCall, 2), x), nil, "x($)", 0},
		{list(node(api.NodeCall, 4), x, y), list(z), "x(y, $, z)", 0},
		{list(node(api.NodeSpawn, 1)), nil, "spawn $()", 8},
		{list(node(api.NodeSpawn, 2)), list(x), "spawn $(x)", 8},
		{list(node(api.NodeSpawn, 3), x, y), nil, "spawn x(y, $)", 0},
		{list(node(api.NodeIndex, 2)), list(x), "$[x]", 8},
		{list(node(api.NodeIndex, 2), x), nil, "x[$]", 0},
		{list(named(api.NodeField, 1, "x")), nil, "$.x", 8},
		{list(node(api.NodeList, 1)), nil, "[$]", 0},
		{list(node(api.NodeList, 3), x), list(y), "[x, $, y]", 0},
		{list(node(api.NodeRec, 1), named(api.NodeKey, 1, "x")), nil, "{x: $}", 0},
		{list(node(api.NodeRec, 2), named(api.NodeKey, 1, "x")), list(named(api.NodeKey, 1, "y"), z), "{x: $, y: z}", 0},
	}
	for sign, s := range signs() {
		all = append(all, place{list(named(api.NodeBin, 2, sign)), list(x), "$ " + sign + " x", s[1]})
		all = append(all, place{list(named(api.NodeBin, 2, sign), x), nil, "x " + sign + " $", s[2]})
	}
	return all
}

func within(p place, x inner) ([]api.Node, string) {
	text := x.text
	if x.strength < p.binding {
		text = "(" + text + ")"
	}
	return lists(p.ahead, x.nodes, p.behind), strings.Replace(p.text, "$", text, 1)
}

// P7.3: each kind in each place; and, as what a statement begins with, P7.2.
func TestEachInEach(t *testing.T) {
	for _, p := range places() {
		for _, x := range inners() {
			nodes, text := within(p, x)
			wantExpr(t, shown(nodes...), 2, text)
			wantText(t, program(append(list(named(api.NodeVar, 1, "v")), nodes...)...), "var v = "+text+";\n")
			wantText(t, program(append(list(node(api.NodeReturn, 1)), nodes...)...), "return "+text+";\n")
			wantText(t, program(append(list(node(api.NodeSet, 2), name("v")), nodes...)...), "v = "+text+";\n")
			if strings.HasPrefix(text, "{") {
				text = "(" + text + ")"
			}
			wantText(t, shown(nodes...), text+";\n")
			stopIfFailed(t)
		}
	}
}

// P7.3: by hand.
func TestExpressions(t *testing.T) {
	for _, c := range []struct{ text, want string }{
		{"((a or b) or c) or d", "a or b or c or d"},
		{"a or (b or (c or d))", "a or (b or (c or d))"},
		{"(a and b) and (c and d)", "a and b and (c and d)"},
		{"(a and b) or (c and d)", "a and b or c and d"},
		{"(a or b) and (c or d)", "(a or b) and (c or d)"},
		{"not (not a)", "not not a"},
		{"not (a and b) or not (c)", "not (a and b) or not c"},
		{"not (a == b)", "not a == b"},
		{"(not a) == (not b)", "(not a) == (not b)"},
		{"(not a) and (not b)", "not a and not b"},
		{"-(not a)", "-(not a)"},
		{"(a == b) == (c == d)", "(a == b) == (c == d)"},
		{"(a + b) < (c - d)", "a + b < c - d"},
		{"((a + b) - c) + d", "a + b - c + d"},
		{"a + (b - (c + d))", "a + (b - (c + d))"},
		{"(a * b) + (c / d) - (e % f)", "a * b + c / d - e % f"},
		{"((a * b) / c) % d", "a * b / c % d"},
		{"a * (b / (c % d))", "a * (b / (c % d))"},
		{"(a + b) * (c - d)", "(a + b) * (c - d)"},
		{"-(-(-a))", "---a"},
		{"-(1)", "-1"},
		{"-(a * b)", "-(a * b)"},
		{"(-a) * (-b)", "-a * -b"},
		{"a - (-b)", "a - -b"},
		{"-(a.b[c](d))", "-a.b[c](d)"},
		{"(-a)(b)", "(-a)(b)"},
		{"-(spawn f())", "-spawn f()"},
		{"(spawn f()) * (spawn g())", "spawn f() * spawn g()"},
		{"spawn (-f)()", "spawn (-f)()"},
		{"spawn (spawn f())()", "spawn (spawn f())()"},
		{"spawn (f())()", "spawn f()()"},
		{"spawn f.a[1](2)(3, 4)", "spawn f.a[1](2)(3, 4)"},
		{"spawn fn () {}()", "spawn fn () {\n}()"},
		{"(spawn f())()", "(spawn f())()"},
		{"(spawn f()).a", "(spawn f()).a"},
		{"((a.b).c)(((d)))[((e))]", "a.b.c(d)[e]"},
		{"(1).a", "1.a"},
		{"1 [2]", "1[2]"},
		{"\"a\".b", "\"a\".b"},
		{"nil()", "nil()"},
		{"[((a or b)), ((-1))]", "[a or b, -1]"},
		{"{a: (b or c), d: ({})}", "{a: b or c, d: {}}"},
		{"fn () {} or fn (a, b) {}", "fn () {\n} or fn (a, b) {\n}"},
		{"a <= b", "a <= b"},
		{"\"\\x41\\x0a\\x09\\x0D\\\"\\\\\"", "\"A\\n\\t\\x0d\\\"\\\\\""},
	} {
		wantExpr(t, parsed(t, "x = "+c.text+";"), 3, c.want)
		wantPrinted(t, "x = "+c.text+";", "x = "+c.want+";\n")
		if !strings.HasPrefix(c.want, "{") {
			wantPrinted(t, c.text+";", c.want+";\n")
		}
	}
}

// P7.3: as many parameters and arguments as may be, and entries beyond.
func TestRows(t *testing.T) {
	most := "a" + strings.Repeat(", a", api.MaxParams-1)
	wantPrinted(t, "f("+most+");", "f("+most+");\n")
	wantPrinted(t, "spawn f("+most+");", "spawn f("+most+");\n")
	wantPrinted(t, "fn f("+most+") {}", "fn f("+most+") {\n}\n")
	wantPrinted(t, "fn ("+most+") {};", "fn ("+most+") {\n};\n")
	more := "a" + strings.Repeat(", a", 300)
	wantPrinted(t, "["+more+"];", "["+more+"];\n")
	wantPrinted(t, "({"+strings.ReplaceAll(more, "a", "a:1")+"});", "({"+strings.ReplaceAll(more, "a", "a: 1")+"});\n")
}
