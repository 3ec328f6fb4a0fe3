package scope

import (
	"strconv"
	"strings"
	"testing"

	"jacquard/api"
)

// P8.4: that function and all functions between take it, each once.
func TestCaptured(t *testing.T) {
	wantScope(t, "fn f(a) { return fn () { return fn () { return fn () { return a; }; }; }; }", "f:g0 a:c0 a:t0", "0/0 1/1 0/0o0 0/0c0 0/0c0")
	wantScope(t, "fn f(a) { return fn () { return a + a * a; }; }", "f:g0 a:c0 a:t0 a:t0 a:t0", "0/0 1/1 0/0o0")
	wantScope(t, "{ var a = 1; fn f() { a = a; } fn g() { a; } }", "a:c0 f:s1 a:t0 a:t0 g:s2 a:t0", "0/3 0/0o0 0/0o0")
	wantScope(t, "try { } catch e { fn () { e; fn () { e; }; }; }", "e:c0 e:t0 e:t0", "0/1 0/0o0 0/0c0")
}

// P8.4: Caps stand in the order of the Names that need them, in functions between too.
func TestOrderOfCaps(t *testing.T) {
	wantScope(t, "fn f(a, b, c) { return fn () { c; a; c; b; }; }", "f:g0 a:c0 b:c1 c:c2 c:t0 a:t1 c:t0 b:t2", "0/0 3/3 0/0o2o0o1")
	wantScope(t, "fn f(a, b) { return fn (c) { b; return fn () { c; a; b; }; }; }", "f:g0 a:c0 b:c1 c:c0 b:t0 c:t0 a:t1 b:t2", "0/0 2/2 1/1o1o0 0/0o0c1c0")
	wantScope(t, "fn f(a, b) { fn () { fn () { a; }; fn () { b; a; }; b; }; }", "f:g0 a:c0 b:c1 a:t0 b:t0 a:t1 b:t1", "0/0 2/2 0/0o0o1 0/0c0 0/0c1c0")
	wantScope(t, "{ var a = 1; fn () { var b = 2; fn () { var c = 3; fn () { c; b; a; }; }; }; }", "a:c0 b:c0 c:c0 c:t0 b:t1 a:t2", "0/1 0/1o0 0/1o0c0 0/0o0c0c1")
}

// P8.5: UseCell of each Name of the declaring function, those ahead of what captures it too, and of the node that declares.
func TestCells(t *testing.T) {
	wantScope(t, "fn f(a, b) { a; b; fn () { a; }; a = b; }", "f:g0 a:c0 b:s1 a:c0 b:s1 a:t0 a:c0 b:s1", "0/0 2/2 0/0o0")
	wantScope(t, "{ var a = 1; a; { var a = 2; fn () { a; }; a; } a; }", "a:s0 a:s0 a:c1 a:t0 a:c1 a:s0", "0/2 0/0o1")
	wantScope(t, "{ fn f() { f(); } f(); }", "f:c0 f:t0 f:c0", "0/1 0/0o0")
	wantScope(t, "{ fn f() { } f(); }", "f:s0 f:s0", "0/1 0/0")
	wantScope(t, "{ var a = 1; { fn f() { var a = a; a; } } }", "a:c0 f:s1 a:s0 a:t0 a:s0", "0/2 0/1o0")
}

// P8.4: globals and primitives are captured by nobody.
func TestNotCaptured(t *testing.T) {
	wantScope(t, "var x = 1; fn f() { return fn () { x = x; print(f); }; }", "x:g0 f:g1 x:g0 x:g0 print:p0 f:g1", "0/0 0/0 0/0")
}

// P8.4: two declarations of one name are taken as two.
func TestTwoOfOneName(t *testing.T) {
	wantScope(t, "fn f(a) { fn () { a; }; { var a = 1; fn () { a; }; } fn () { a; }; }", "f:g0 a:c0 a:t0 a:c1 a:t0 a:t0", "0/0 1/2 0/0o0 0/0o1 0/0o0")
	wantScope(t, "fn f(a) { fn () { a; var a = a; fn () { a; }; }; }", "f:g0 a:c0 a:t0 a:c0 a:t0 a:t0", "0/0 1/1 0/1o0 0/0o0")
}

// repeated is a text many times, with numbers for #.
func repeated(text string, from, to int) string {
	var b strings.Builder
	for i := from; i < to; i++ {
		b.WriteString(strings.ReplaceAll(text, "#", strconv.Itoa(i)))
	}
	return b.String()
}

// P8.5: MaxSlots slots, and one more: of Vars, Fns, Tries and parameters together.
func TestMostSlots(t *testing.T) {
	for _, c := range []struct {
		head, each string
		ahead      int
		foot       string
	}{
		{"{ ", "var v# = 1; ", 0, " }"},
		{"{ ", "fn v#() { } ", 0, " }"},
		{"", "try { } catch v { } ", 0, ""},
		{"", "{ var v = 1; } ", 0, ""},
		{"fn f(a, b, c) { ", "var v# = a; ", 3, " }"},
		{"fn f(a, b, c) { ", "{ var a = 1; } ", 3, " }"},
		{"var f = fn (a) { try { } catch e { } ", "{ fn a() { var z = 1; } } ", 2, " };"},
	} {
		most := c.head + repeated(c.each, c.ahead, api.MaxSlots)
		s := wantTaken(t, most+c.foot)
		if got := max(s.Funs[0].Slots, s.Funs[min(1, len(s.Funs)-1)].Slots); got != api.MaxSlots {
			t.Errorf("%q: %d slots", c.each, got)
		}
		for _, more := range []string{"@try { } catch last { } ", "{ @var last = 1; } ", "{ @fn last() { } } "} {
			wantFault(t, most+more+c.foot, api.ErrMany)
		}
		wantTaken(t, most+"fn () { var a = 1; };"+c.foot)
	}
}

// P8.5: MaxSlots are of each function by itself.
func TestMostSlotsEach(t *testing.T) {
	body := repeated("var v# = 1; ", 0, api.MaxSlots)
	s := wantTaken(t, "{ "+body+"} fn f() { "+body+"fn () { "+body+"}; }")
	if funsTold(s) != "0/256 0/256 0/256" {
		t.Error(funsTold(s))
	}
}

// P8.5: MaxGlobals globals, and one more; a Name ahead of it means it all the same.
func TestMostGlobals(t *testing.T) {
	most := repeated("var v# = 1; ", 0, api.MaxGlobals-1) + "fn last() { } "
	s := wantTaken(t, "v1022; last; "+most)
	if len(s.Globals) != api.MaxGlobals || s.Globals[1022] != "v1022" || s.Globals[1023] != "last" || s.Uses[2] != (api.Use{Where: api.UseGlobal, N: 1022}) || s.Uses[4] != (api.Use{Where: api.UseGlobal, N: 1023}) {
		t.Error(s.Globals, s.Uses[:5])
	}
	wantFault(t, "more; "+most+"@var more = x; ", api.ErrMany)
	wantFault(t, "more; "+most+"@fn more() { x; }", api.ErrMany)
	wantFault(t, "more; "+most+"@x; var more = 1;", api.ErrNone)
	wantTaken(t, most+"{ var more = 1; fn other() { } }")
}

// P8.5: MaxFuns functions, the program among them, and one more.
func TestMostFuns(t *testing.T) {
	most := repeated("fn () { }; ", 1, api.MaxFuns)
	s := wantTaken(t, most)
	if len(s.Funs) != api.MaxFuns {
		t.Error(len(s.Funs))
	}
	wantFault(t, most+"@fn () { x; };", api.ErrMany)
	wantFault(t, most+"@fn f(print) { }", api.ErrMany)
	wantFault(t, most+"x = [f, @fn () { break; }, y]; var f = 1; var x = 1;", api.ErrMany)
	wantFault(t, most+"{ @fn f() { } }", api.ErrMany)
	wantFault(t, most+"@break; fn () { };", api.ErrForm)
}

// manyCaps: functions f and g within it that have n slots together, all of them needed by one within both.
func manyCaps(n int, more string) string {
	var needs strings.Builder
	for i := range n {
		needs.WriteString("v" + strconv.Itoa(i) + "; ")
	}
	return "fn f() { " + repeated("var v# = 1; ", 0, 200) + "fn g() { " + repeated("var v# = 1; ", 200, 300) + "fn h() { " + needs.String() + more + "} } }"
}

// P8.5: MaxCaps Caps of a function, and one more, at the Name that needs it.
func TestMostCaps(t *testing.T) {
	s := wantTaken(t, manyCaps(api.MaxCaps, ""))
	if len(s.Funs) != 4 || len(s.Funs[3].Caps) != api.MaxCaps || len(s.Funs[2].Caps) != 200 {
		t.Fatal(s.Funs)
	}
	for i, c := range s.Funs[3].Caps {
		want := api.Cap{Own: 0, N: i}
		if i >= 200 {
			want = api.Cap{Own: 1, N: i - 200}
		}
		if c != want {
			t.Errorf("%d: %v", i, c)
		}
	}
	wantTaken(t, manyCaps(api.MaxCaps, "v0; v255; print(f); var v256 = 1; v256; "))
	wantFault(t, manyCaps(api.MaxCaps, "v0; @v256; x; "), api.ErrMany)
	wantFault(t, manyCaps(api.MaxCaps, "print(1, [@v299]); x; "), api.ErrMany)
	wantFault(t, manyCaps(api.MaxCaps, "@v256 = 1; x; "), api.ErrMany)
	wantFault(t, manyCaps(api.MaxCaps, "@x; v256; "), api.ErrNone)
}

// P8.5: a function between has too many as well, though the one that the Name belongs to has not.
func TestMostCapsBetween(t *testing.T) {
	s := wantTaken(t, manyCaps(api.MaxCaps, "fn () { v0; v255; }; "))
	if got := s.Funs[4].Caps; len(got) != 2 || got[0] != (api.Cap{N: 0}) || got[1] != (api.Cap{N: 255}) {
		t.Error(got)
	}
	wantFault(t, manyCaps(api.MaxCaps, "fn () { v0; @v256; }; x; "), api.ErrMany)
	wantFault(t, manyCaps(api.MaxCaps, "fn () { fn () { @v299; }; }; x; "), api.ErrMany)
	wantTaken(t, manyCaps(api.MaxCaps, "var w = 1; fn () { w; }; "))
}
