package print

import (
	"bytes"
	"math"
	"slices"
	"strings"
	"testing"

	"jacquard/api"
	"jacquard/parse"
)

// Short forms of nodes.
func node(kind, n int) api.Node               { return api.Node{Kind: kind, N: n} }
func named(kind, n int, text string) api.Node { return api.Node{Kind: kind, N: n, Text: text} }
func name(text string) api.Node               { return named(api.NodeName, 0, text) }
func str(text string) api.Node                { return named(api.NodeStr, 0, text) }
func list(nodes ...api.Node) []api.Node       { return nodes }
func lists(pieces ...[]api.Node) []api.Node   { return slices.Concat(pieces...) }

// program is one of a single statement.
func program(nodes ...api.Node) []api.Node { return lists(list(node(api.NodeProg, 1)), nodes) }

// shown is one whose statement is an expression, which stands at 2.
func shown(nodes ...api.Node) []api.Node {
	return lists(list(node(api.NodeProg, 1), node(api.NodeExpr, 1)), nodes)
}

// repeated is a node, so many times.
func repeated(n api.Node, times int) []api.Node { return slices.Repeat(list(n), times) }

func parsed(t *testing.T, text string) []api.Node {
	t.Helper()
	l, e, at := parse.Parse([]byte(text))
	if e != api.OK {
		t.Fatalf("%.200q: %d at %d", text, e, at)
	}
	return l
}

func brief(text string) string {
	if len(text) > 400 {
		return text[:200] + " .. " + text[len(text)-200:]
	}
	return text
}

func wantText(t *testing.T, l []api.Node, want string) {
	t.Helper()
	if got, e := Text(l); string(got) != want || e != api.OK {
		t.Errorf("%q (%d bytes), %d, not %q (%d bytes)", brief(string(got)), len(got), e, brief(want), len(want))
	}
}

func wantExpr(t *testing.T, l []api.Node, at int, want string) {
	t.Helper()
	if got, e := Expr(l, at); string(got) != want || e != api.OK {
		t.Errorf("%q (%d bytes), %d, not %q (%d bytes)", brief(string(got)), len(got), e, brief(want), len(want))
	}
}

func wantTextFault(t *testing.T, l []api.Node, e api.Errno) {
	t.Helper()
	if got, gotE := Text(l); len(got) != 0 || gotE != e {
		t.Errorf("%.300v: %q, %d, not %d", l, brief(string(got)), gotE, e)
	}
}

func wantExprFault(t *testing.T, l []api.Node, at int, e api.Errno) {
	t.Helper()
	if got, gotE := Expr(l, at); len(got) != 0 || gotE != e {
		t.Errorf("%.300v at %d: %q, %d, not %d", l, at, brief(string(got)), gotE, e)
	}
}

// P7.1: no statement, one, some.
func TestLines(t *testing.T) {
	wantText(t, list(node(api.NodeProg, 0)), "")
	wantText(t, parsed(t, ""), "")
	wantText(t, parsed(t, " # nothing\n"), "")
	wantText(t, parsed(t, "break;"), "break;\n")
	wantText(t, parsed(t, "break;continue ; {}x;"), "break;\ncontinue;\n{\n}\nx;\n")
}

// P7.1: what is no program.
func TestFaultsOfCheck(t *testing.T) {
	for _, c := range []struct {
		l []api.Node
		e api.Errno
	}{
		{nil, api.ErrForm},
		{list(), api.ErrForm},
		{list(node(api.NodeProg, 1)), api.ErrForm},
		{list(node(api.NodeProg, math.MaxInt)), api.ErrForm},
		{list(node(api.NodeProg, 0), node(api.NodeBreak, 0)), api.ErrForm},
		{list(node(api.NodeProg, -1)), api.ErrArg},
		{list(node(api.NodeBlock, 0)), api.ErrKind},
		{list(name("a")), api.ErrKind},
		{program(node(0, 0)), api.ErrKind},
		{program(node(33, 0)), api.ErrKind},
		{program(name("a")), api.ErrKind},
		{program(node(api.NodeSet, 2), node(api.NodeNil, 0), node(api.NodeNil, 0)), api.ErrKind},
		{shown(name("if")), api.ErrArg},
		{shown(named(api.NodeBin, 2, "="), name("a"), name("b")), api.ErrArg},
		{shown(api.Node{Kind: api.NodeInt, Num: -1}), api.ErrArg},
		{shown(api.Node{Kind: api.NodeInt, Num: api.MaxInt + 1}), api.ErrArg},
		{shown(lists(list(node(api.NodeCall, 18)), repeated(name("a"), 18))...), api.ErrArg},
		{shown(node(api.NodeNeg, 1)), api.ErrForm},
		{shown(node(api.NodeNil, 1), node(api.NodeNil, 0)), api.ErrArg},
	} {
		wantTextFault(t, c.l, c.e)
		for at := -1; at <= len(c.l); at++ {
			wantExprFault(t, c.l, at, c.e)
		}
		wantExprFault(t, c.l, math.MinInt, c.e)
		wantExprFault(t, c.l, math.MaxInt, c.e)
	}
}

// P7.1: of each node of a program, whether it is an expression.
func TestWhichExpressions(t *testing.T) {
	l := parsed(t, "fn f(p) { x = {k: -1}; return; } if a {} else if b {} while c { break; continue; } try { throw \"s\"; } catch e { return [true, false, nil]; } var v = d or e and not f; g(1)[h.i]; spawn j(fn (q, r) {}); {}")
	seen := map[int]int{}
	for at, n := range l {
		seen[n.Kind]++
		if n.Kind >= 14 && n.Kind <= 32 && n.Kind != 22 {
			if got, e := Expr(l, at); len(got) == 0 || e != api.OK {
				t.Errorf("%d, %v: %q, %d", at, n, got, e)
			}
		} else {
			wantExprFault(t, l, at, api.ErrArg)
		}
	}
	for kind := api.NodeProg; kind <= api.NodeSpawn; kind++ {
		if seen[kind] == 0 && kind != api.NodeBin {
			t.Errorf("no %d among them", kind)
		}
	}
	for _, at := range []int{-1, math.MinInt, len(l), len(l) + 1, math.MaxInt} {
		wantExprFault(t, l, at, api.ErrArg)
	}
	wantExpr(t, l, 2, "p")
	wantExprFault(t, parsed(t, ""), 0, api.ErrArg)
	wantExprFault(t, parsed(t, ""), 1, api.ErrArg)
}

// P7.1: an expression as it stands alone, wherever it stands.
func TestExpressionAlone(t *testing.T) {
	l := parsed(t, "x = (1 + 2) * -y;")
	for at, want := range []string{2: "x", 3: "(1 + 2) * -y", 4: "1 + 2", 5: "1", 6: "2", 7: "-y", 8: "y"} {
		if at >= 2 {
			wantExpr(t, l, at, want)
		}
	}
	l = parsed(t, "({a: 1}).b = ({}); ((a or b)).c;")
	wantExpr(t, l, 2, "{a: 1}.b")
	wantExpr(t, l, 3, "{a: 1}")
	wantExpr(t, l, 6, "{}")
	wantExpr(t, l, 8, "(a or b).c")
	wantExpr(t, l, 9, "a or b")
	l = parsed(t, "fn f() { { return fn () { return fn (a) { b; }; }; } }")
	at := slices.IndexFunc(l, func(n api.Node) bool { return n.Kind == api.NodeLambda })
	wantExpr(t, l, at, "fn () {\n  return fn (a) {\n    b;\n  };\n}")
	wantExpr(t, l, at+3, "fn (a) {\n  b;\n}")
}

// P7.1: MaxShow bytes, and one more, whatever comes last.
func TestLongest(t *testing.T) {
	for _, form := range []string{
		"$;", "x = $;", "f($);", "[1, $];", "{ { $; } }", "{ { } $; { } }", "if a { $; } else if b { } else { c; }", "while $ { }", "try { } catch $ { break; }", "fn $(a) { }", "fn f($) { return; }",
		"var $ = 1;", "return $;", "throw $;", "$; a; b; c = 12345;", "a; $; { { { } } }", "({$: 1});", "({$: 1}).a = 1;", "a.$;", "$(1, 2);", "spawn $();", "a = fn ($) { { } };", "-(-(a + $)) * 2;", "not $ == 1;", "a or $; \"b\";", "\"\\\"\\\\\\n\\t\\x00\\xff\"; $;",
	} {
		l := parsed(t, strings.Replace(form, "$", "longname", 1))
		short, _ := Text(l)
		at := slices.IndexFunc(l, func(n api.Node) bool { return n.Text == "longname" })
		l[at].Text = strings.Repeat("a", api.MaxShow-len(short)+len("longname"))
		wantText(t, l, strings.Replace(string(short), "longname", l[at].Text, 1))
		l[at].Text += "a"
		wantTextFault(t, l, api.ErrLong)
	}
}

// P7.1: MaxShow bytes, and one more, of an expression in a program that is longer.
func TestLongestExpression(t *testing.T) {
	for _, form := range []string{"$", "f($)", "[$]", "{a: $}", "[$, 12345]", "[$, \"\\n\\xff\"]", "-$", "not $", "$ + 1", "1 + $", "(1 + $) * 2", "a[$]", "$[1]", "$.a", "a.$", "fn ($) {\n}", "fn () {\n  $;\n}", "spawn $(1)", "a or $", "$ and b", "a == $", "{$: 1}"} {
		l := parsed(t, "x = "+strings.Replace(form, "$", "longname", 1)+";")
		at := slices.IndexFunc(l, func(n api.Node) bool { return n.Text == "longname" })
		l[at].Text = strings.Repeat("a", api.MaxShow-len(form)+1)
		wantExpr(t, l, 3, strings.Replace(form, "$", l[at].Text, 1))
		wantTextFault(t, l, api.ErrLong)
		l[at].Text += "a"
		wantExprFault(t, l, 3, api.ErrLong)
		wantExprFault(t, l, 1, api.ErrArg)
		wantExpr(t, l, 2, "x")
	}
}

// P7.1: strings as long as may be, by what each byte is written as.
func TestLongestStrings(t *testing.T) {
	for _, c := range []struct {
		b       string
		written int
	}{{"a", 1}, {" ", 1}, {"~", 1}, {"\"", 2}, {"\\", 2}, {"\n", 2}, {"\t", 2}, {"\r", 4}, {"\x7f", 4}, {"\xff", 4}, {"\x00", 4}} {
		most := (api.MaxShow - 2) / c.written
		l := shown(str(strings.Repeat(c.b, most)))
		if got, e := Expr(l, 2); len(got) != 2+most*c.written || e != api.OK {
			t.Errorf("%q: %d, %d", c.b, len(got), e)
		}
		l[2].Text += strings.Repeat(c.b, 3)
		wantExprFault(t, l, 2, api.ErrLong)
		wantTextFault(t, l, api.ErrLong)
	}
	l := shown(str(strings.Repeat("\x00", 1<<24)))
	wantExprFault(t, l, 2, api.ErrLong)
	wantTextFault(t, l, api.ErrLong)
}

// P7.1: as many nodes as have a byte each, and one more; what is nested, but not parsed.
func TestManyNodes(t *testing.T) {
	l := shown(append(repeated(node(api.NodeNeg, 1), api.MaxShow-1), name("a"))...)
	wantExpr(t, l, 2, strings.Repeat("-", api.MaxShow-1)+"a")
	wantTextFault(t, l, api.ErrLong)
	wantText(t, slices.Delete(slices.Clone(l), 2, 4), strings.Repeat("-", api.MaxShow-3)+"a;\n")
	wantTextFault(t, slices.Delete(slices.Clone(l), 2, 3), api.ErrLong)
	wantExprFault(t, shown(append(repeated(node(api.NodeNeg, 1), api.MaxShow), name("a"))...), 2, api.ErrLong)
	wantExpr(t, l, len(l)-1, "a")

	fields := shown(append(repeated(named(api.NodeField, 1, "b"), api.MaxShow/2-1), name("aa"))...)
	wantExpr(t, fields, 2, "aa"+strings.Repeat(".b", api.MaxShow/2-1))
	wantExprFault(t, shown(append(repeated(named(api.NodeField, 1, "b"), api.MaxShow/2), name("a"))...), 2, api.ErrLong)
}

// P7.1: blocks within one another: of each two lines, two blanks more than of the one about it.
func TestManyBlocks(t *testing.T) {
	blocks := func(n int) []api.Node {
		return program(append(repeated(node(api.NodeBlock, 1), n-1), node(api.NodeBlock, 0))...)
	}
	if got, e := Text(blocks(180)); len(got) != 2*180*181 || e != api.OK {
		t.Error(len(got), e)
	}
	for _, n := range []int{181, 300, 5000, api.MaxShow - 1, api.MaxShow, api.MaxShow + 1, 300000} {
		wantTextFault(t, blocks(n), api.ErrLong)
	}
}

// P7.1: what is much too long is told as such, however it is made.
func TestMuchTooLong(t *testing.T) {
	for _, n := range []int{api.MaxShow / 2, api.MaxShow - 10, api.MaxShow, 100000} {
		for _, kind := range []int{api.NodeNot, api.NodeIndex, api.NodeCall, api.NodeBin, api.NodeOr, api.NodeList, api.NodeSpawn, api.NodeLambda} {
			one := map[int][]api.Node{
				api.NodeIndex: list(node(api.NodeIndex, 2)), api.NodeCall: list(node(api.NodeCall, 1)), api.NodeBin: list(named(api.NodeBin, 2, "+")),
				api.NodeOr: list(node(api.NodeOr, 2)), api.NodeLambda: list(node(api.NodeLambda, 1), node(api.NodeBlock, 1), node(api.NodeExpr, 1)),
			}[kind]
			if one == nil {
				one = list(node(kind, 1))
			}
			l := append(shown(slices.Repeat(one, n)...), name("a"))
			if one[0].N == 2 {
				l = append(l, repeated(name("a"), n)...)
			}
			if _, e := parse.Check(l); e != api.OK {
				t.Fatal(kind, e)
			}
			wantTextFault(t, l, api.ErrLong)
			wantExprFault(t, l, 2, api.ErrLong)
			wantExprFault(t, l, 1, api.ErrArg)
		}
		l := lists(list(node(api.NodeProg, n)), repeated(node(api.NodeBreak, 0), n))
		wantTextFault(t, l, api.ErrLong)
		l = append(l, name("a"))
		wantTextFault(t, l, api.ErrForm)
	}
	l := lists(list(node(api.NodeProg, api.MaxShow/7)), repeated(node(api.NodeBreak, 0), api.MaxShow/7))
	wantText(t, l, strings.Repeat("break;\n", api.MaxShow/7))
}

// What is handed in is not changed; an answer is new memory.
func TestMemory(t *testing.T) {
	l := parsed(t, "fn f(a) { return {b: [1, \"s\"]}; } ({}).c = -f(2);")
	l = append(l, name("spare"))[:len(l)]
	before := slices.Clone(l[:len(l)+1])
	for range 2 {
		for _, tell := range []func() ([]byte, api.Errno){
			func() ([]byte, api.Errno) { return Text(l) },
			func() ([]byte, api.Errno) { return Expr(l, len(l)-1) },
			func() ([]byte, api.Errno) { return Expr(l, 5) },
		} {
			one, _ := tell()
			kept := bytes.Clone(one)
			for i := range one[:cap(one)] {
				one[:cap(one)][i] = 'x'
			}
			two, e := tell()
			if !bytes.Equal(two, kept) || e != api.OK || len(two) == 0 {
				t.Errorf("%q, %d, not %q", two, e, kept)
			}
		}
	}
	if !slices.Equal(before, l[:len(l)+1]) {
		t.Error(l)
	}
}
