package gen

import (
	"math"
	"math/rand"
	"slices"
	"strings"
	"testing"

	"jacquard/api"
	"jacquard/parse"
	"jacquard/verify"
)

// modelNeed is P12.4, word by word.
func modelNeed(l []api.Node, parts [][]int, i int) int {
	n := l[i]
	if n.N == 0 || n.Kind == api.NodeLambda {
		return 1
	}
	switch n.Kind {
	case api.NodeKey, api.NodeNot, api.NodeNeg, api.NodeField:
		return modelNeed(l, parts, parts[i][0])
	case api.NodeAnd, api.NodeOr:
		return max(modelNeed(l, parts, parts[i][0]), modelNeed(l, parts, parts[i][1]), 1)
	}
	most := 1
	for k, p := range parts[i] {
		most = max(most, k+modelNeed(l, parts, p))
	}
	return most
}

// P12.4
func TestNeed(t *testing.T) {
	for text, want := range map[string]int{
		"1": 1, "x": 1, "\"a\"": 1, "true": 1, "false": 1, "nil": 1, "fn () { }": 1,
		"[]": 1, "[1]": 1, "[1, 2]": 2, "[1, 2, 3]": 3, "[[1, 2], 3]": 2, "[1, [2, 3]]": 3, "[[1, 2, 3], 4]": 3,
		"({})": 1, "({a: 1})": 1, "({a: 1, b: 2})": 2, "({a: 1, b: [2, 3]})": 3, "({a: [1, 2, 3, 4], b: 1})": 4,
		"1 + 2": 2, "1 + 2 * 3": 3, "(1 + 2) * 3": 2, "1 + 2 + 3": 2, "1 < 2 + 3 * 4": 4, "a == b": 2,
		"1 and 2": 1, "1 or 2": 1, "1 and 2 + 3": 2, "1 + 2 and 3": 2, "1 or 2 or 3 + (4 + 5)": 3, "1 + (2 and 3)": 2, "1 + 2 * 3 or 4": 3,
		"not 1": 1, "not (1 + 2)": 2, "-1": 1, "-(1 + 2)": 2, "--[1, 2, 3]": 3,
		"f()": 1, "f(1)": 2, "f(1, 2)": 3, "f(1, 2 + 3)": 4, "f(1 + 2)": 3, "(1 + (2 + 3))(4)": 3, "f()()": 1, "f(1, 2)(3)": 3,
		"spawn f()": 1, "spawn f(1, 2)": 3, "spawn f(1, [2, 3])": 4, "spawn f(1)(2)": 2,
		"a[1]": 2, "a[1 + 2]": 3, "a[1][2]": 2, "[1, 2, 3][0]": 3, "a[b[c[1]]]": 4,
		"a.b": 1, "(1 + 2).a": 2, "a.b.c.d": 1, "[1, 2].a[3]": 2,
		"fn (a, b, c) { return [1, 2, 3, 4]; }": 1, "1 + fn () { [1, 2, 3, 4]; }": 2, "(fn (a, b) { })(1)": 2, "[fn (a) { }, 1, 2]": 3,
	} {
		l := parsed(t, text+";")
		if n, e := Need(l, 2); n != want || e != api.OK {
			t.Errorf("%s: %d, %d, not %d", text, n, e, want)
		}
	}
}

// P12.4: Keys, parameters' Names and targets, and all that is no expression.
func TestNeedOfPlaces(t *testing.T) {
	l := parsed(t, "fn f(a, b) { a[1 + 2] = {x: [1, 2]}; } var v = 1; while 1 { break; continue; } if 1 { } else { } try { throw 1; } catch e { } f = 2;")
	for i, n := range l {
		got, e := Need(l, i)
		if n.Kind < api.NodeInt {
			if got != 0 || e != api.ErrArg {
				t.Errorf("node %d of kind %d: %d, %d", i, n.Kind, got, e)
			}
			continue
		}
		if want := modelNeed(l, partsOf(l), i); got != want || e != api.OK {
			t.Errorf("node %d of kind %d: %d, %d, not %d", i, n.Kind, got, e, want)
		}
	}
	// a parameter, the target, the record, its Key
	for i, want := range map[int][2]int{2: {api.NodeName, 1}, 6: {api.NodeIndex, 3}, 11: {api.NodeRec, 2}, 12: {api.NodeKey, 2}} {
		if n, e := Need(l, i); l[i].Kind != want[0] || n != want[1] || e != api.OK {
			t.Errorf("node %d, of kind %d: %d, %d", i, l[i].Kind, n, e)
		}
	}
}

// P12.4
func TestNeedRefused(t *testing.T) {
	l := parsed(t, "x = [1, 2];")
	for _, at := range []int{math.MinInt, -1, len(l), len(l) + 1, math.MaxInt, 0, 1} {
		if n, e := Need(l, at); n != 0 || e != api.ErrArg {
			t.Errorf("at %d: %d, %d", at, n, e)
		}
	}
	if n, e := Need(l, 3); n != 2 || e != api.OK {
		t.Error(n, e)
	}
	for _, spoil := range []func(l []api.Node) []api.Node{
		func(l []api.Node) []api.Node { return nil },
		func(l []api.Node) []api.Node { return l[:0] },
		func(l []api.Node) []api.Node { return l[:len(l)-1] },
		func(l []api.Node) []api.Node { return append(l, l[4]) },
		func(l []api.Node) []api.Node { return l[2:] },
		func(l []api.Node) []api.Node { l[0].N = -1; return l },
		func(l []api.Node) []api.Node { l[0].N = math.MaxInt; return l },
		func(l []api.Node) []api.Node { l[3].N = math.MaxInt; return l },
		func(l []api.Node) []api.Node { l[3].Kind = 33; return l },
		func(l []api.Node) []api.Node { l[3].Kind = 0; return l },
		func(l []api.Node) []api.Node { l[3].Kind = api.NodeKey; return l },
		func(l []api.Node) []api.Node { l[3].Kind = api.NodeExpr; return l },
		func(l []api.Node) []api.Node { l[2].Text = "var"; return l },
		func(l []api.Node) []api.Node { l[4].Num = -1; return l },
	} {
		bad := spoil(slices.Clone(l))
		for at := -1; at <= len(l); at++ {
			if n, e := Need(bad, at); n != 0 || e != api.ErrArg {
				t.Errorf("%v at %d: %d, %d", bad, at, n, e)
			}
		}
		if im, e, _ := Compile(bad); e == api.OK || !isZero(im) {
			t.Errorf("%v: %v, %d", bad, im, e)
		}
	}
}

// wide is an expression, as a text, that needs just so many values, with no list that is too long.
func wide(n int) string {
	if n <= 255 {
		return "[0" + strings.Repeat(", 0", n-1) + "]"
	}
	return "[" + strings.Repeat("0, ", 254) + wide(n-254) + "]"
}

// P12.4: no bound of its own.
func TestNeedOfMany(t *testing.T) {
	for _, n := range []int{1, 2, 254, 255, 256, 257, 300, 509} {
		l := parsed(t, wide(n)+";")
		if got, e := Need(l, 2); got != n || e != api.OK {
			t.Error(n, got, e)
		}
	}
	l := parsed(t, "["+strings.Repeat("0, ", 3000)+"0];")
	if got, e := Need(l, 2); got != 3001 || e != api.OK {
		t.Error(got, e)
	}
}

// chain is an expression statement with so many nodes of a kind within each other.
func chain(n int, kind int, text string, leftLeaf bool) []api.Node {
	parts := 1
	if leftLeaf {
		parts = 2
	}
	l := []api.Node{{Kind: api.NodeProg, N: 1}, {Kind: api.NodeExpr, N: 1, At: 5}}
	for range n {
		l = append(l, api.Node{Kind: kind, N: parts, Text: text, At: 6})
		if leftLeaf {
			l = append(l, api.Node{Kind: api.NodeNil, At: 7})
		}
	}
	return append(l, api.Node{Kind: api.NodeNil, At: 8})
}

// P12.4, P12.5: 2^16 parts in one another.
func TestDeep(t *testing.T) {
	const deep = 1<<16 - 3
	l := chain(deep, api.NodeNot, "", false)
	if n, e := Need(l, 2); n != 1 || e != api.OK {
		t.Error(n, e)
	}
	compiled(t, chain(deep-1, api.NodeNot, "", false)) // just as many instructions as there may be
	l = chain(deep, api.NodeBin, "+", true)
	if n, e := Need(l, 2); n != deep+1 || e != api.OK {
		t.Error(n, e)
	}
	if _, e, at := Compile(l); e != api.ErrMany || at != 5 {
		t.Error(e, at)
	}
	l = chain(deep/2, api.NodeAnd, "", true)
	if n, e := Need(l, 2); n != 1 || e != api.OK {
		t.Error(n, e)
	}
	compiled(t, chain(20000, api.NodeOr, "", true))
	blocks := []api.Node{{Kind: api.NodeProg, N: 1}}
	for range deep {
		blocks = append(blocks, api.Node{Kind: api.NodeBlock, N: 1})
	}
	compiled(t, append(blocks, api.Node{Kind: api.NodeBlock}))
	ifs := []api.Node{{Kind: api.NodeProg, N: 1}}
	for range 20000 {
		ifs = append(ifs, api.Node{Kind: api.NodeIf, N: 3}, api.Node{Kind: api.NodeNil}, api.Node{Kind: api.NodeBlock})
	}
	compiled(t, append(ifs, api.Node{Kind: api.NodeBlock}))
}

// P12.4: expressions that are drawn, held against the model; and the stack of their code is never higher.
func TestNeedDrawn(t *testing.T) {
	d := &drawer{Rand: rand.New(rand.NewSource(121))}
	highest := 0
	for range 1000 {
		l := d.program(2+d.Intn(4), 0)
		if _, e := parse.Check(l); e != api.OK {
			t.Fatal(e)
		}
		parts := partsOf(l)
		for i, n := range l {
			if got, e := Need(l, i); n.Kind >= api.NodeInt && (got != modelNeed(l, parts, i) || e != api.OK) {
				t.Fatalf("%s: node %d: %d, %d", brief(l), i, got, e)
			}
		}
		im := compiled(t, l)
		most := 1
		for i, n := range l {
			if n.Kind < api.NodeInt {
				most = max(most, modelStatement(l, parts, i))
			}
		}
		for f := range im.Funs {
			h, _ := verify.Heights(im, f)
			if slices.Max(h) > most {
				t.Fatalf("%s: %v, but %d", brief(l), h, most)
			}
			highest = max(highest, slices.Max(h))
		}
	}
	if highest < 8 {
		t.Error(highest)
	}
}
