package scope

import (
	"testing"

	"jacquard/api"
)

// P8.2: functions are numbered in the order of nodes, those in values and parameters' places too; Node is where each is.
func TestFunctions(t *testing.T) {
	text := "var h = fn () { fn a() { } }; fn f(p) { return fn (q, r) { fn s() { } }; } print([fn () { }, {k: fn () { }}]); while fn () { } { fn l() { } }"
	l := parsed(t, text)
	s := resolved(t, l)
	var places []int
	for i, n := range l {
		if i == 0 || n.Kind == api.NodeFn || n.Kind == api.NodeLambda {
			places = append(places, i)
		}
	}
	if len(places) != 10 || len(s.Funs) != 10 {
		t.Fatal(places, s.Funs)
	}
	for i, f := range s.Funs {
		params := 0
		if i > 0 {
			params = l[places[i]].Num
		}
		if f.Node != places[i] || f.Params != params {
			t.Errorf("function %d: %v, not at %d with %d", i, f, places[i], params)
		}
	}
	if got, want := funsTold(s), "0/1 0/1 0/0 1/1 2/3 0/0 0/0 0/0 0/0 0/0"; got != want {
		t.Errorf("%s, not %s", got, want)
	}
}

// P8.2: a Fn's own node belongs to the one about it, its Names and its Block to it.
func TestWhatBelongsWhere(t *testing.T) {
	wantScope(t, "fn f(a) { fn g(b) { var c = b; } var d = a; }", "f:g0 a:s0 g:s1 b:s0 c:s1 b:s0 d:s2 a:s0", "0/0 1/3 1/2")
	wantScope(t, "{ fn g(b) { } } { var h = fn (c) { var d = c; }; }", "g:s0 b:s0 h:s1 c:s0 d:s1 c:s0", "0/2 1/1 1/2")
	wantScope(t, "fn f() { try { } catch e { var x = e; } }", "f:g0 e:s0 x:s1 e:s0", "0/0 0/2")
}

// P8.3: what is right below the Prog is a global, seen everywhere; what is deeper is none.
func TestGlobals(t *testing.T) {
	wantScope(t, "var a = 1; fn b() { } var c = 2;", "a:g0 b:g1 c:g2", "0/0 0/0")
	wantScope(t, "var a = a;", "a:g0 a:g0", "0/0")
	wantScope(t, "f(); x = y; { y; } fn f() { return x + y + f; } var y = 1; var x = 2;", "f:g0 x:g2 y:g1 y:g1 f:g0 x:g2 y:g1 f:g0 y:g1 x:g2", "0/0 0/0")
	wantScope(t, "{ var a = 1; } if true { var b = 1; } else { fn c() { } } while true { var d = 1; } try { var e = 1; } catch f { var g = 1; } var z = 1;", "a:s0 b:s1 c:s2 d:s3 f:s4 e:s5 g:s6 z:g0", "0/7 0/0")
	wantScope(t, "if true { } else if false { var a = 1; print(a); } else { var a = 2; }", "a:s0 print:p0 a:s0 a:s1", "0/2")
}

// P8.3: a Try's slot is a slot of its function, right below the Prog too, ahead of those of its first Block.
func TestTries(t *testing.T) {
	wantScope(t, "try { var a = 1; } catch e { var b = e; } try { } catch e { e; }", "e:s0 a:s1 b:s2 e:s0 e:s3 e:s3", "0/4")
	wantScope(t, "fn f(e) { try { e; } catch e { e; } e; }", "f:g0 e:s0 e:s1 e:s0 e:s1 e:s0", "0/0 1/2")
	wantScope(t, "var e = 1; try { e; } catch e { e = e; try { e; } catch e { e; } e; } e;", "e:g0 e:s0 e:g0 e:s0 e:s0 e:s1 e:s0 e:s1 e:s0 e:g0", "0/2")
	wantScope(t, "try { } catch e { var e = e; e; }", "e:s0 e:s1 e:s0 e:s1", "0/2")
	wantScope(t, "{ var e = 1; try { } catch e { } }", "e:s0 e:s1", "0/2")
}

// P8.3: a Var is seen from behind it on, an Fn from its own node on, each up to the end of its Block.
func TestFromWhereOn(t *testing.T) {
	wantScope(t, "var a = 1; { a; var a = a + 2; a; { a; } } a;", "a:g0 a:g0 a:s0 a:g0 a:s0 a:s0 a:g0", "0/1")
	wantScope(t, "fn f(a) { a; { a; var a = a; a; { var a = a; a; } a; } a; }", "f:g0 a:s0 a:s0 a:s0 a:s1 a:s0 a:s1 a:s2 a:s1 a:s2 a:s1 a:s0", "0/0 1/3")
	wantScope(t, "fn g() { } { g; fn g() { return g; } g; } g;", "g:g0 g:g0 g:c0 g:t0 g:c0 g:g0", "0/1 0/0 0/0o0")
	wantScope(t, "var a = 1; { var a = fn () { return a; }; }", "a:g0 a:s0 a:g0", "0/1 0/0")
	wantScope(t, "var x = 1; while x { x; var x = 2; }", "x:g0 x:g0 x:g0 x:s0", "0/1")
	wantScope(t, "var a = 1; if a { var a = a; } else { a; } if a { }", "a:g0 a:g0 a:s0 a:g0 a:g0 a:g0", "0/1")
}

// P8.3: a function's Names are seen in its Block, and are declared in another node than what stands in the Block.
func TestNamesOfFunctions(t *testing.T) {
	wantScope(t, "fn f(a, b) { a; b; var a = b; a; } var a = 1; a;", "f:g0 a:s0 b:s1 a:s0 b:s1 a:s2 b:s1 a:s2 a:g1 a:g1", "0/0 2/3")
	wantScope(t, "{ fn f(f) { f; fn f() { } f; } f; }", "f:s0 f:s0 f:s0 f:s1 f:s1 f:s0", "0/1 1/2 0/0")
	wantScope(t, "fn f(a) { return fn (a) { return a; }; }", "f:g0 a:s0 a:s0 a:s0", "0/0 1/1 1/1")
	wantScope(t, "fn f(f) { return f; } f;", "f:g0 f:s0 f:s0 f:g0", "0/0 1/1")
}

// P8.3: slots are numbered in the order of nodes, and none is used again.
func TestSlots(t *testing.T) {
	wantScope(t, "fn f(a, b) { { var c = 1; } { var c = 2; { var d = 3; } } try { fn g() { } } catch h { var i = 1; } var j = 1; }", "f:g0 a:s0 b:s1 c:s2 c:s3 d:s4 h:s5 g:s6 i:s7 j:s8", "0/0 2/9 0/0")
	wantScope(t, "{ var a = 1; } { var a = a2; } var a2 = 1;", "a:s0 a:s1 a2:g0 a2:g0", "0/2")
}

// P8.4: a declaration ahead of the global, the global ahead of nothing else, a primitive where there is neither.
func TestWhatNamesMean(t *testing.T) {
	wantScope(t, "var x = 1; fn f(x) { { var x = 2; x; } x; } x; print(x, len);", "x:g0 f:g1 x:s0 x:s1 x:s1 x:s0 x:g0 print:p0 x:g0 len:p1", "0/0 1/2")
	wantScope(t, "self.x[now]; spawn yield(); x(-x, not x, x and x, x or x, x < x, [x], {x: x}); throw x; var x = 1;", "self:p29 now:p16 yield:p14 x:g0 x:g0 x:g0 x:g0 x:g0 x:g0 x:g0 x:g0 x:g0 x:g0 x:g0 x:g0 x:g0", "0/0")
}

// P8.4: what stands as a key or behind a point is no Name.
func TestKeysAndFields(t *testing.T) {
	wantScope(t, "var r = {len: 1, q: 2}; r.len = r.q; r.print = 1;", "r:g0 r:g0 r:g0 r:g0", "0/0")
}
