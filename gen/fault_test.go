package gen

import (
	"math/rand"
	"reflect"
	"slices"
	"strconv"
	"strings"
	"testing"

	"jacquard/api"
	"jacquard/parse"
	"jacquard/scope"
)

func isZero(im api.Image) bool {
	return len(im.Funs) == 0 && len(im.Strs) == 0 && len(im.Keys) == 0 && im.Globals == 0
}

// refused: a text that there is no image of.
type refused struct {
	text string
	e    api.Errno
	at   int
}

func checkRefused(t *testing.T, l []refused) {
	t.Helper()
	for _, c := range l {
		if im, e, at := Compile(parsed(t, c.text)); e != c.e || at != c.at || !isZero(im) {
			t.Errorf("%.60s: %d at %d, not %d at %d", c.text, e, at, c.e, c.at)
		}
	}
}

// P12.5: what scope.Resolve tells comes first.
func TestRefusedByScope(t *testing.T) {
	checkRefused(t, []refused{
		{"x;", api.ErrNone, 0}, {"  print(y);", api.ErrNone, 8},
		{"break;", api.ErrForm, 0}, {"{ continue; }", api.ErrForm, 2}, {" return 1;", api.ErrForm, 1},
		{"var x = 1; var x = 2;", api.ErrTwice, 11}, {"var len = 1;", api.ErrKind, 0}, {"len = 1;", api.ErrKind, 0},
		{"({a: 1, a: 2}); x;", api.ErrNone, 16}, {"var y = " + wide(300) + "; x;", api.ErrNone, 8 + len(wide(300)) + 2},
		{"({a: 1, a: x});", api.ErrNone, 11},
		{"{ var a = 1; var a = [" + strings.Repeat("0, ", 400) + "0]; }", api.ErrTwice, 13},
	})
	many := ""
	for i := range api.MaxGlobals {
		many += "var g" + strconv.Itoa(i) + "=1;"
	}
	compiled(t, parsed(t, many))
	checkRefused(t, []refused{{many + "var h=1;", api.ErrMany, len(many)}})
	for _, l := range [][]api.Node{
		nil,
		{},
		{{Kind: api.NodeExpr, N: 1, At: 3}, {Kind: api.NodeNil, At: 4}},
		{{Kind: api.NodeProg, N: 1, At: 3}},
		{{Kind: api.NodeProg, N: 0, At: 3}, {Kind: api.NodeBlock, At: 4}},
		{{Kind: api.NodeProg, N: -1, At: 3}},
		{{Kind: api.NodeProg, N: 1, At: 3}, {Kind: api.NodeExpr, N: 1, At: 4}, {Kind: api.NodeBin, N: 2, Text: "=", At: 5}, {Kind: api.NodeNil}, {Kind: api.NodeNil}},
	} {
		_, want := parse.Check(l)
		if im, e, at := Compile(l); e != want || e == api.OK || at != 0 || !isZero(im) {
			t.Errorf("%v: %d at %d", l, e, at)
		}
	}
}

// P12.5: a Key that stands twice.
func TestKeysTwice(t *testing.T) {
	checkRefused(t, []refused{
		{"({a: 1, a: 2});", api.ErrTwice, 8},
		{"({a: 1, b: 2, a: 3, b: 4, a: 5});", api.ErrTwice, 14},
		{"({a: {b: 1, b: 2}, a: 3});", api.ErrTwice, 12},
		{"({a: 1, a: {b: 1, b: 2}});", api.ErrTwice, 8},
		{"({a: [fn () { ({c: 1, c: 2}); }], a: 3});", api.ErrTwice, 22},
		{"({a: 1}); ({b: 1, b: 2});", api.ErrTwice, 18},
		{"fn f() { return {len: 1, len: len}; }", api.ErrTwice, 25},
		{"({a: 1}).b = {a: 1, b: 2, a: 3};", api.ErrTwice, 26},
	})
	for _, text := range []string{
		"({a: 1, b: {a: 2, b: 3}, c: {a: 4}});", "({a: 1, A: 2, _: 3, a1: 4, len: 5});", "({a: 1}); ({a: 1});", "[{a: 1}, {a: 2}];",
	} {
		compiled(t, parsed(t, text))
	}
}

func list(n int) string { return "[" + strings.Repeat("0, ", n-1) + "0]" }

func record(n int) string {
	text := "{"
	for i := range n {
		text += "k" + strconv.Itoa(i) + ": 0, "
	}
	return text[:len(text)-2] + "}"
}

// P12.5: too many entries; where a statement has too much besides, it stands ahead.
func TestEntries(t *testing.T) {
	for _, text := range []string{list(255), record(255), "[" + list(255) + ", " + record(255) + "]"} {
		compiled(t, parsed(t, "var x = "+text+";"))
	}
	checkRefused(t, []refused{
		{"var x = " + list(256) + ";", api.ErrMany, 8},
		{"var x = " + record(256) + ";", api.ErrMany, 8},
		{"var x = " + list(257) + ";", api.ErrMany, 0},
		{"var x = " + record(257) + ";", api.ErrMany, 0},
		{"var x = [[" + list(256) + "]];", api.ErrMany, 10},
		{"print(" + list(256) + ");", api.ErrMany, 0},
		{"1; print(" + list(255) + "); " + list(256) + ";", api.ErrMany, 3 + 8 + len(list(255)) + 1},
		{"var x = [fn () { " + list(256) + "; }, 1];", api.ErrMany, 17},
		{"var x = [fn () { return 1 + " + list(256) + "; }, 1];", api.ErrMany, 17},
		{"var x = " + strings.Replace(record(256), "k7:", "k6:", 1) + ";", api.ErrMany, 8},
		{"var x = " + strings.Replace(record(255), "k7:", "k6:", 1) + ";", api.ErrTwice, 9 + 7*len("k0: 0, ")},
		{"({a: " + list(256) + ", a: 1});", api.ErrMany, 5},
		{"({a: 1, a: " + list(256) + "});", api.ErrMany, 1},
		{"({a: 1, a: " + list(255) + "});", api.ErrTwice, 8},
		{"({a: 1, a: 2}); " + list(256) + ";", api.ErrTwice, 8},
		{list(256) + "; ({a: 1, a: 2});", api.ErrMany, 0},
	})
}

// P12.5: each kind of statement with just as much as there may be, and with one more.
func TestStatementNeeds(t *testing.T) {
	for _, c := range []struct {
		text string // @: the statement, %: an expression
		more int    // what it needs beside it
	}{
		{"@var x = %;", 0}, {"{ @var x = %; }", 0}, {"{ @var x = %; fn () { return x; }; }", 0},
		{"var x = 1; @x = %;", 0}, {"{ var x = 1; @x = %; }", 0}, {"{ var x = 1; fn () { @x = %; }; }", 0},
		{"@print[0] = %;", 2}, {"@print[%] = 0;", 1}, {"@%[0] = 0;", 0}, {"@print.a = %;", 1}, {"@%.a = 0;", 0},
		{"@print[0][1][2] = %;", 2}, {"@print.a.b.c = %;", 1}, {"@print[0].b[3] = %;", 2},
		{"@if % { }", 0}, {"@if % { } else { }", 0}, {"if 1 { } else @if % { } else { }", 0}, {"if 1 { @if % { } }", 0},
		{"@while % { }", 0}, {"while 1 { @while % { } }", 0},
		{"fn f() { @return %; }", 0}, {"@throw %;", 0}, {"try { @throw %; } catch e { }", 0}, {"try { } catch e { @throw %; }", 0},
		{"@%;", 0}, {"{ { @%; } }", 0}, {"fn f(a) { @%; }", 0}, {"[1, fn () { @%; }];", 0}, {"1; 2; @%; 3;", 0},
		{"@not %;", 0}, {"@-%;", 0}, {"@%.a;", 0}, {"@% and %;", 0}, {"@1 or %;", 0}, {"@1 + %;", 1}, {"@% + 1;", 0},
		{"@print(%);", 1}, {"@print(0, 1, %);", 3}, {"@spawn print(0, %);", 2}, {"@print[%];", 1}, {"@%[0];", 0}, {"@[0, 1, %];", 2},
		{"@var x = {a: 0, b: %};", 1}, {"@var x = {a: %, b: 0};", 0}, {"@1 + (2 + (3 or %));", 2},
	} {
		at := strings.Index(c.text, "@")
		text := strings.Replace(c.text, "@", "", 1)
		fits := strings.ReplaceAll(text, "%", wide(api.MaxStack-c.more))
		compiled(t, parsed(t, fits))
		checkRefused(t, []refused{{strings.ReplaceAll(text, "%", wide(api.MaxStack-c.more+1)), api.ErrMany, at}})
	}
}

// P12.5: the first of several, in the order of nodes.
func TestFirstFault(t *testing.T) {
	checkRefused(t, []refused{
		{"1; " + wide(257) + "; ({a: 1, a: 1});", api.ErrMany, 3},
		{"1; ({a: 1, a: 1}); " + wide(257) + ";", api.ErrTwice, 11},
		{"1; [" + wide(256) + ", {a: 1, a: 1}];", api.ErrTwice, 3 + 1 + len(wide(256)) + 2 + 7},
		{"1; [{a: 1, a: 1}, " + wide(256) + "];", api.ErrMany, 3},
		{"while {a: 1, a: 1} { " + wide(257) + "; }", api.ErrTwice, 13},
		{"while fn () { " + wide(257) + "; } { ({a: 1, a: 1}); }", api.ErrMany, 14},
		{"print[" + wide(256) + "] = {a: 1, a: 1};", api.ErrMany, 0},
		{"print[{a: 1, a: 1}] = " + wide(254) + ";", api.ErrTwice, 13},
		{"fn f() { " + wide(257) + "; } ({a: 1, a: 1});", api.ErrMany, 9},
	})
}

// modelStatement is what a statement needs by what it is directly made of, as P12.5 has it.
func modelStatement(l []api.Node, parts [][]int, i int) int {
	most := 0
	ahead := 0
	for k, p := range parts[i] {
		if l[p].Kind < api.NodeInt || l[i].Kind == api.NodeFn {
			continue
		}
		if l[i].Kind == api.NodeSet && k == 1 {
			ahead = map[int]int{api.NodeName: 0, api.NodeIndex: 2, api.NodeField: 1}[l[parts[i][0]].Kind]
		}
		most = max(most, ahead+modelNeed(l, parts, p))
	}
	return most
}

// modelFault is the first fault of a program that scope takes.
func modelFault(l []api.Node) (api.Errno, int) {
	parts := partsOf(l)
	for i, n := range l {
		switch {
		case n.Kind < api.NodeInt && modelStatement(l, parts, i) > 256, n.Kind == api.NodeList && n.N > 255, n.Kind == api.NodeRec && n.N > 255:
			return api.ErrMany, n.At
		case n.Kind == api.NodeKey:
			about := slices.IndexFunc(parts, func(p []int) bool { return slices.Contains(p, i) })
			for _, other := range parts[about] {
				if other < i && l[other].Text == n.Text {
					return api.ErrTwice, n.At
				}
			}
		}
	}
	return api.OK, 0
}

// widen makes some lists and records of a program longer, about the bounds, and some keys alike.
func widen(r *rand.Rand, l []api.Node) []api.Node {
	var out []api.Node
	for _, n := range l {
		many := 0
		if (n.Kind == api.NodeList || n.Kind == api.NodeRec) && r.Intn(4) == 0 {
			many = []int{1, 100, 240, 250, 252, 253, 254, 255, 256}[r.Intn(9)]
		}
		if n.Kind == api.NodeList {
			n.N += many
		}
		if n.Kind == api.NodeRec {
			n.N += many
		}
		n.At = 7*len(out) + 3
		out = append(out, n)
		again := -1
		if r.Intn(3) == 0 {
			again = r.Intn(max(1, many))
		}
		for k := range many {
			if n.Kind == api.NodeRec {
				if k == again {
					k = 0
				}
				out = append(out, api.Node{Kind: api.NodeKey, N: 1, Text: "w" + strconv.Itoa(k), At: 7*len(out) + 3})
			}
			out = append(out, api.Node{Kind: api.NodeInt, Num: k, At: 7*len(out) + 3})
		}
	}
	return out
}

// P12.5: programs that are drawn and made wide, held against the model.
func TestFaultsDrawn(t *testing.T) {
	d := &drawer{Rand: rand.New(rand.NewSource(122))}
	came := map[api.Errno]int{}
	for range 1500 {
		l := widen(d.Rand, d.program(2+d.Intn(3), 0))
		if _, e, _ := scope.Resolve(l); e != api.OK {
			t.Fatal(e)
		}
		want, place := modelFault(l)
		im, e, at := Compile(l)
		if e != want || at != place || e != api.OK && !isZero(im) {
			t.Fatalf("%s: %d at %d, not %d at %d", brief(l), e, at, want, place)
		}
		if e == api.OK {
			compiled(t, l)
		}
		came[e]++
	}
	for _, e := range []api.Errno{api.OK, api.ErrMany, api.ErrTwice} {
		if came[e] < 50 {
			t.Error(came)
		}
	}
}

// P12.5: code that no image may have. Which error comes, and where, the chapter leaves open: ErrMany, at the function's node.
func TestTooMuchCode(t *testing.T) {
	row := func(statements, nots int) []api.Node {
		var l []api.Node
		for i := range statements {
			l = append(l, api.Node{Kind: api.NodeExpr, N: 1, At: 2})
			if i < nots {
				l = append(l, api.Node{Kind: api.NodeNot, N: 1, At: 3})
			}
			l = append(l, api.Node{Kind: api.NodeNil, At: 4})
		}
		return l
	}
	most := (api.MaxCode - 2) / 2
	prog := func(statements, nots int) []api.Node {
		return append([]api.Node{{Kind: api.NodeProg, N: statements, At: 11}}, row(statements, nots)...)
	}
	if im := compiled(t, prog(most, 0)); len(im.Funs[0].Code) != api.MaxCode {
		t.Error(len(im.Funs[0].Code))
	}
	if im, e, at := Compile(prog(most, 1)); e != api.ErrMany || at != 11 || !isZero(im) {
		t.Error(e, at)
	}
	inner := func(nots int) []api.Node {
		l := []api.Node{{Kind: api.NodeProg, N: 2}, {Kind: api.NodeExpr, N: 1, At: 12}, {Kind: api.NodeLambda, N: 1, At: 13}, {Kind: api.NodeBlock, At: 14}}
		l = append(l, api.Node{Kind: api.NodeFn, N: 1, Text: "f", At: 15}, api.Node{Kind: api.NodeBlock, N: most, At: 16})
		return append(l, row(most, nots)...)
	}
	compiled(t, inner(0))
	if im, e, at := Compile(inner(1)); e != api.ErrMany || at != 15 || !isZero(im) {
		t.Error(e, at)
	}
}

// Rules: fields that are not named, and At, play no part.
func TestOtherFields(t *testing.T) {
	text := "var x = 1; fn f(a) { try { throw a + -1; } catch e { return [e, {k: \"s\"}.k, not true or nil and false]; } } while x { x[0] = f(1)[2]; break; }"
	l := parsed(t, text)
	want := compiled(t, l)
	for i, n := range l {
		l[i].At = 1000 - i
		named := n.Kind == api.NodeVar || n.Kind == api.NodeTry || n.Kind == api.NodeFn || n.Kind == api.NodeStr || n.Kind == api.NodeName ||
			n.Kind == api.NodeKey || n.Kind == api.NodeBin || n.Kind == api.NodeField
		if !named {
			l[i].Text = "*"
		}
		if n.Kind != api.NodeInt && n.Kind != api.NodeFn && n.Kind != api.NodeLambda {
			l[i].Num = -5 - i
		}
	}
	if got := compiled(t, l); !reflect.DeepEqual(got, want) {
		t.Errorf("%v, not %v", got, want)
	}
}
