package scope

import (
	"math"
	"slices"
	"strconv"
	"strings"
	"testing"

	"jacquard/api"
	"jacquard/parse"
)

func parsed(t *testing.T, text string) []api.Node {
	t.Helper()
	l, e, at := parse.Parse([]byte(text))
	if e != api.OK {
		t.Fatalf("%q: %d at %d", text, e, at)
	}
	return l
}

func resolved(t *testing.T, l []api.Node) api.Scope {
	t.Helper()
	s, e, at := Resolve(l)
	if e != api.OK || at != 0 {
		t.Fatalf("%v: %d at %d", l, e, at)
	}
	return s
}

// usesTold: each node that has a use, by its text: s a slot, c a cell, t taken, g a global, p a primitive.
func usesTold(l []api.Node, s api.Scope) string {
	var told []string
	for i, u := range s.Uses {
		if u != (api.Use{}) {
			told = append(told, l[i].Text+":"+string("?sctgp"[u.Where])+strconv.Itoa(u.N))
		}
	}
	return strings.Join(told, " ")
}

// funsTold: of each function its parameters, its slots and what it takes: o a slot of the one about it, c one of that one's Caps.
func funsTold(s api.Scope) string {
	var told []string
	for _, f := range s.Funs {
		text := strconv.Itoa(f.Params) + "/" + strconv.Itoa(f.Slots)
		for _, c := range f.Caps {
			text += string("co"[c.Own]) + strconv.Itoa(c.N)
		}
		told = append(told, text)
	}
	return strings.Join(told, " ")
}

func wantScope(t *testing.T, text, uses, funs string) {
	t.Helper()
	l := parsed(t, text)
	s, e, at := Resolve(l)
	if e != api.OK || at != 0 || len(s.Uses) != len(l) {
		t.Errorf("%q: %d at %d, %d uses", text, e, at, len(s.Uses))
		return
	}
	if got := usesTold(l, s); got != uses {
		t.Errorf("%q: uses\n%s, not\n%s", text, got, uses)
	}
	if got := funsTold(s); got != funs {
		t.Errorf("%q: functions\n%s, not\n%s", text, got, funs)
	}
}

func isZero(s api.Scope) bool { return len(s.Funs)+len(s.Uses)+len(s.Globals) == 0 }

func wantFaultOf(t *testing.T, l []api.Node, what string, want api.Errno, place int) {
	t.Helper()
	if s, e, at := Resolve(l); e != want || at != place || !isZero(s) {
		t.Errorf("%s: %d at %d, not %d at %d; %v", what, e, at, want, place, s)
	}
}

// wantFault: the fault is where the text has a @, which is left out.
func wantFault(t *testing.T, text string, want api.Errno) {
	t.Helper()
	place := strings.Index(text, "@")
	if place < 0 || strings.Count(text, "@") != 1 {
		t.Fatalf("%q has not just one @", text)
	}
	wantFaultOf(t, parsed(t, strings.Replace(text, "@", "", 1)), strconv.Quote(text), want, place)
}

func wantTaken(t *testing.T, text string) api.Scope {
	t.Helper()
	return resolved(t, parsed(t, text))
}

// P8.1: each primitive by its number, in the chapter's order.
func TestPrimitives(t *testing.T) {
	names := strings.Fields("print len push pop keys has get put same text cx re im kind yield sleep now rand join box send recv monitor lock unlock wait waitfor notify notifyall self")
	if len(names) != 30 || api.Prims != 30 {
		t.Fatal(len(names))
	}
	for i, name := range names {
		if got, is := Prim(name); got != i || !is {
			t.Errorf("%s: %d %t", name, got, is)
		}
		if got := PrimName(i); got != name {
			t.Errorf("%d: %q", i, got)
		}
		wantScope(t, name+";", name+":p"+strconv.Itoa(i), "0/0")
	}
}

// P8.1: what is no primitive.
func TestNoPrimitives(t *testing.T) {
	for _, name := range []string{"", " ", "Print", "PRINT", "prin", "printx", " print", "print ", "waitFor", "notifyAll", "if", "x", "0", "print\x00", "len,push"} {
		if got, is := Prim(name); got != 0 || is {
			t.Errorf("%q: %d %t", name, got, is)
		}
	}
	for _, i := range []int{-1, -2, 30, 31, 99, math.MaxInt, math.MinInt, 1 << 32, -1 << 32} {
		if got := PrimName(i); got != "" {
			t.Errorf("%d: %q", i, got)
		}
	}
}

// The examples of the chapter and of the whole.
func TestExamples(t *testing.T) {
	wantScope(t, "var x = 1; fn f(a) { return fn () { return a + x; }; }", "x:g0 f:g1 a:c0 a:t0 x:g0", "0/0 1/1 0/0o0")
	wantScope(t, "fn f(a) { return fn () { return a; }; }", "f:g0 a:c0 a:t0", "0/0 1/1 0/0o0")
}

// P8.5: the lists of an answer, of the smallest program too.
func TestLists(t *testing.T) {
	s := wantTaken(t, "")
	if len(s.Funs) != 1 || s.Funs[0].Node != 0 || s.Funs[0].Params != 0 || s.Funs[0].Slots != 0 || len(s.Funs[0].Caps) != 0 || !slices.Equal(s.Uses, []api.Use{{}}) || len(s.Globals) != 0 {
		t.Error(s)
	}
	s = wantTaken(t, "fn b(x) { } var a = 1; { var d = 1; } fn c() { }")
	if !slices.Equal(s.Globals, []string{"b", "a", "c"}) {
		t.Error(s.Globals)
	}
}

// P8.5: the error of parse.Check, with place 0, ahead of all others.
func TestNoProgram(t *testing.T) {
	name := func(text string) api.Node { return api.Node{Kind: api.NodeName, Text: text, At: 9} }
	of := func(kind, n int) api.Node { return api.Node{Kind: kind, N: n, At: 7} }
	for _, c := range []struct {
		l []api.Node
		e api.Errno
	}{
		{nil, api.ErrForm},
		{[]api.Node{}, api.ErrForm},
		{[]api.Node{of(api.NodeProg, 1)}, api.ErrForm},
		{[]api.Node{of(api.NodeProg, 0), of(api.NodeBreak, 0)}, api.ErrForm},
		{[]api.Node{of(api.NodeBlock, 0)}, api.ErrKind},
		{[]api.Node{of(api.NodeProg, 1), of(99, 0)}, api.ErrKind},
		{[]api.Node{of(api.NodeProg, 1), of(-1, 0)}, api.ErrKind},
		{[]api.Node{of(api.NodeProg, -1)}, api.ErrArg},
		{[]api.Node{of(api.NodeProg, 1), of(api.NodeBreak, math.MaxInt)}, api.ErrArg},
		{[]api.Node{of(api.NodeProg, 1), of(api.NodeExpr, 1), name("if")}, api.ErrArg},
		{[]api.Node{of(api.NodeProg, 2), of(api.NodeBreak, 0), of(api.NodeExpr, 1), name("")}, api.ErrArg},
		{[]api.Node{of(api.NodeProg, 2), of(api.NodeReturn, 0)}, api.ErrForm},
		{[]api.Node{of(api.NodeProg, 2), of(api.NodeExpr, 1), name("y"), name("x")}, api.ErrKind},
	} {
		if _, e := parse.Check(c.l); e != c.e {
			t.Fatalf("%v: parse.Check tells %d", c.l, e)
		}
		wantFaultOf(t, c.l, "no program", c.e, 0)
	}
}

// Memory: what is handed in stays as it is, and lists are nobody else's.
func TestMemory(t *testing.T) {
	l := parsed(t, "var x = 1; fn f(a, b) { var c = 2; return fn () { a = b; return fn () { return c + x + a; }; }; } fn g() { try { f(); } catch e { print(fn () { return e; }); } }")
	l = append(l, api.Node{Kind: 77, Text: "spare"})[:len(l)]
	before := slices.Clone(l[:len(l)+1])
	s := resolved(t, l)
	if !slices.Equal(l[:len(l)+1], before) {
		t.Error("what is handed in has changed")
	}
	uses, funs := usesTold(l, s), funsTold(s)
	for i := range s.Funs {
		s.Funs[i].Caps = append(s.Funs[i].Caps, api.Cap{Own: 1, N: 99})
	}
	for i := range s.Funs {
		last := len(s.Funs[i].Caps) - 1
		if s.Funs[i].Caps[last] != (api.Cap{Own: 1, N: 99}) {
			t.Error("two functions share room")
		}
		s.Funs[i].Caps = s.Funs[i].Caps[:last]
	}
	if usesTold(l, s) != uses || funsTold(s) != funs {
		t.Error("lists share room")
	}
	clear(s.Uses[:cap(s.Uses)])
	clear(s.Globals[:cap(s.Globals)])
	for _, f := range s.Funs {
		clear(f.Caps[:cap(f.Caps)])
	}
	clear(s.Funs[:cap(s.Funs)])
	again := resolved(t, l)
	if usesTold(l, again) != uses || funsTold(again) != funs || !slices.Equal(again.Globals, []string{"x", "f", "g"}) {
		t.Error("answers share room")
	}
	if !slices.Equal(l[:len(l)+1], before) {
		t.Error("an answer shares room with what is handed in")
	}
}

// at puts a text behind the @, without puts it in its place.
func at(text, behind string) string { return strings.ReplaceAll(text, "@", "@"+behind) }

func without(text, instead string) string { return strings.ReplaceAll(text, "@", instead) }
