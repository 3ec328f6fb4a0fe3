package gen

import (
	"fmt"
	"strings"
	"testing"

	"jacquard/api"
	"jacquard/heap"
	"jacquard/parse"
	"jacquard/prim"
	"jacquard/print"
	"jacquard/scope"
	"jacquard/show"
	"jacquard/tag"
	"jacquard/verify"
)

func parsed(t *testing.T, text string) []api.Node {
	t.Helper()
	l, e, at := parse.Parse([]byte(text))
	if e != api.OK {
		t.Fatalf("%s: %d at %d", text, e, at)
	}
	return l
}

// brief is a program's text, or its beginning.
func brief(l []api.Node) string {
	text, e := print.Text(l)
	if e != api.OK {
		return fmt.Sprintf("%d nodes (%d)", len(l), e)
	}
	return fmt.Sprintf("%.2000s", text)
}

// compiled is an image that verify takes.
func compiled(t *testing.T, l []api.Node) api.Image {
	t.Helper()
	im, e, at := Compile(l)
	if e != api.OK || at != 0 {
		t.Fatalf("%s: %d at %d", brief(l), e, at)
	}
	if f, at, e := verify.Check(im); e != api.OK {
		t.Fatalf("%s: function %d at %d: %d", brief(l), f, at, e)
	}
	return im
}

// bothWays is a program that runs twice: by its image and by its nodes.
func bothWays(t *testing.T, l []api.Node, most, depth int) [2]running {
	t.Helper()
	return [2]running{newMachine(compiled(t, l), most, depth), newWalker(l, most, depth)}
}

func look(h *heap.Heap, v api.Value) string {
	text, e := show.Text(h, v)
	if e != api.OK {
		return "long"
	}
	return string(text)
}

func lookAll(h *heap.Heap, l []api.Value) string {
	var texts []string
	for _, v := range l {
		texts = append(texts, look(h, v))
	}
	return strings.Join(texts, ", ")
}

// allObjects are those of a heap, in order.
func allObjects(h *heap.Heap) string {
	var texts []string
	for i := range h.Count() {
		v, _ := tag.Ref(i)
		texts = append(texts, look(h, v))
	}
	return strings.Join(texts, " ")
}

// name of a stop, with all that it tells.
func name(h *heap.Heap, s api.Stop) string {
	zero := api.Stop{Kind: s.Kind}
	text := ""
	switch s.Kind {
	case api.StopSafe:
		text = "safe"
	case api.StopPrim:
		zero.Prim = s.Prim
		text = "prim " + scope.PrimName(s.Prim) + "(" + lookAll(h, s.Args) + ")"
	case api.StopSpawn:
		text = "spawn (" + lookAll(h, s.Args) + ")"
	case api.StopDone:
		zero.Value = s.Value
		text = "done " + look(h, s.Value)
	case api.StopThrown:
		zero.Value = s.Value
		text = "thrown " + look(h, s.Value)
	case api.StopDead:
		zero.Fault = s.Fault
		text = "dead " + prim.FaultText(s.Fault)
	}
	if text == "" || s.Prim != zero.Prim || s.Value != zero.Value || s.Fault != zero.Fault {
		return "wrong"
	}
	return text
}

// story is a thread's run, segment by segment: what it puts out, and its stop. rand is handed its argument, now 7, spawn 9, others nil; into sleep(n) fault n is thrown.
func story(r running, x thread) string {
	defer x.leave()
	h := r.objects()
	var segments []string
	for range 200 {
		before := len(r.world().texts)
		s := x.segment()
		segments = append(segments, strings.Join(append(r.world().texts[before:len(r.world().texts):len(r.world().texts)], name(h, s)), " "))
		handed := api.Nil
		switch {
		case s.Kind >= api.StopDone:
			return strings.Join(segments, " | ")
		case s.Kind == api.StopSafe:
			continue
		case s.Kind == api.StopSpawn:
			handed = tag.Int(9)
		case s.Prim == api.PrimRand:
			handed = s.Args[0]
		case s.Prim == api.PrimNow:
			handed = tag.Int(7)
		case s.Prim == api.PrimSleep:
			n, _ := tag.Num(s.Args[0])
			if s := x.fault(n); s.Kind != 0 {
				return strings.Join(append(segments, name(h, s)), " | ")
			}
			continue
		}
		x.resume(handed)
	}
	return strings.Join(segments, " | ")
}

// toldRun is a program whose run is written out.
type toldRun struct {
	text string
	want string
}

func checkStories(t *testing.T, most, depth int, l []toldRun) {
	t.Helper()
	for _, c := range l {
		for i, r := range bothWays(t, parsed(t, c.text), most, depth) {
			x, f := r.start(nil)
			if f != 0 {
				t.Fatal(f)
			}
			if got := story(r, x); got != c.want {
				t.Errorf("%s (%d):\n%s, not\n%s", c.text, i, got, c.want)
			}
		}
	}
}

// P12.1
func TestThreads(t *testing.T) {
	checkStories(t, 100, 4, []toldRun{
		{"", "done nil"},
		{"print(1); print(2);", "1 2 done nil"},
		{"var x = 1;", "safe | done nil"},
		{"fn f(a, b) { print(a); print(b); } f(1, 2);", "safe | safe | 1 2 safe | done nil"},
		{"fn f() { var x = 1; { var y = 2; } while x { print(x); x = nil; } } f(); f();",
			"safe | safe | 1 safe | safe | safe | 1 safe | safe | done nil"},
		{"print(1); yield(); print(2);", "1 prim yield() | 2 done nil"},
		{"fn f() { } print(1); spawn f(); print(2);", "safe | 1 spawn (fn:1) | 2 done nil"},
		{"fn f() { f(); } f();", "safe | safe | safe | safe | dead depth"},
		{"fn f() { try { f(); } catch e { print(e); } } try { f(); } catch e { print(e); }", "safe | safe | safe | safe | dead depth"},
		{"fn f(n) { if n > 0 { f(n - 1); } print(n); } f(2); f(3);",
			"safe | safe | safe | safe | 0 safe | 1 safe | 2 safe | safe | safe | safe | dead depth"},
		{"fn f(n) { if n > 0 { f(n - 1); } else { throw n; } } { var i = 0; while i < 3 { i = i + 1; try { f(2); } catch e { } } }",
			"safe | safe | safe | safe | safe | safe | safe | safe | safe | safe | safe | safe | safe | done nil"},
		{"try { 1 + nil; } catch e { print(e); }", "\"type\" done nil"},
		{"1 / 0;", "thrown \"zero\""},
	})
	checkStories(t, 1, 4, []toldRun{
		{"try { [1]; print(1); [2]; } catch e { print(2); }", "1 dead heap"},
		{"[1]; try { 1 / 0; } catch e { print(e); }", "dead heap"},
		{"try { 1 / 0; } catch e { print(e); }", "\"zero\" done nil"},
		{"{ var x = 1; fn f() { return x; } }", "dead heap"},
		{"print(1); \"a\"; print(2); \"b\"; print(3);", "1 2 dead heap"},
		{"try { \"a\"; sleep(1); } catch e { print(e); }", "prim sleep(1) | dead heap"},
		{"try { sleep(100); } catch e { print(e); }", "prim sleep(100) | dead heap"},
		{"try { sleep(101); } catch e { print(e); }", "prim sleep(101) | dead depth"},
		{"try { sleep(102); } catch e { print(e); }", "prim sleep(102) | dead threads"},
	})
}

// P12.1: what a thread that is spawned begins with, and ends with.
func TestSpawned(t *testing.T) {
	text := "fn f(a, b) { print(b); return fn () { return a; }; } fn g(x) { if x { throw x; } } fn h(a) { return fn () { return a; }; }"
	for i, r := range bothWays(t, parsed(t, text), 6, 2) {
		x, _ := r.start(nil)
		if got := story(r, x); got != "safe | safe | safe | done nil" {
			t.Error(i, got)
		}
		for _, c := range []struct {
			args []api.Value
			want string
		}{
			{[]api.Value{r.world().vars[0], tag.Int(1), tag.Int(2)}, "2 done fn:2"},
			{[]api.Value{r.world().vars[1], tag.Int(5)}, "thrown 5"},
			{[]api.Value{r.world().vars[1], api.False}, "done nil"},
		} {
			x, f := r.start(c.args)
			if f != 0 {
				t.Fatal(i, f)
			}
			if got := story(r, x); got != c.want {
				t.Error(i, got, c.want)
			}
		}
		if got := allObjects(r.objects()); got != "fn:1 fn:3 fn:4 &1 fn:2" {
			t.Error(i, got)
		}
		x, f := r.start([]api.Value{r.world().vars[2], tag.Int(1)})
		if f != 0 {
			t.Fatal(i, f)
		}
		if got := story(r, x); got != "dead heap" {
			t.Error(i, got)
		}
		if _, f := r.start([]api.Value{r.world().vars[2], tag.Int(1)}); f != api.FaultHeap {
			t.Error(i, f)
		}
	}
}

// P12.2
func TestExpressions(t *testing.T) {
	checkStories(t, 100, 10, []toldRun{
		{"print(5); print(0); print(2305843009213693951); print(\"a\\n\"); print(true); print(false); print(nil);",
			"5 0 2305843009213693951 \"a\\n\" true false nil done nil"},
		{"var g = 1; { var s = 2; var c = 3; fn k() { return c; } print(g); print(s); print(c); print(k()); print(len); }",
			"safe | 1 2 3 safe | safe | 3 prim:1 done nil"},
		{"print(g); var g = 1; print(g);", "nil safe | 1 done nil"},
		{"print([rand(1), rand(2), rand(3)]); print([]);", "prim rand(1) | prim rand(2) | prim rand(3) | [1, 2, 3] [] done nil"},
		{"print({b: rand(1), a: rand(2)}); print({});", "prim rand(1) | prim rand(2) | {b: 1, a: 2} {} done nil"},
		{"print(rand(1) - rand(2) * rand(3));", "prim rand(1) | prim rand(2) | prim rand(3) | -5 done nil"},
		{"print((rand(1) - rand(2)) * rand(3));", "prim rand(1) | prim rand(2) | prim rand(3) | -3 done nil"},
		{"print(7 + 2); print(7 - 2); print(7 * 2); print(7 / 2); print(7 % 2);", "9 5 14 3 1 done nil"},
		{"print(7 == 2); print(7 != 2); print(7 < 2); print(7 <= 2); print(7 > 2); print(7 >= 2); print(2 <= 2); print(2 < 2);",
			"false true false false true true true false done nil"},
		{"print(not nil); print(not 0); print(-5); print(--5); print(- -cx(1, 2) == cx(1, 2));", "true false -5 5 true done nil"},
		{"print(nil and rand(1)); print(false and rand(1)); print(0 and rand(1)); print(true and 2);", "nil false prim rand(1) | 1 2 done nil"},
		{"print(nil or rand(1)); print(rand(0) or rand(1)); print(false or nil); print(nil or false);", "prim rand(1) | 1 prim rand(0) | 0 nil false done nil"},
		{"print(1 and nil or 2 and rand(3)); print((1 or 2) and (nil or 4));", "prim rand(3) | 3 4 done nil"},
		{"print([nil and 1, 2 or 3, 1 and 2] == 1); print([nil and 1, 2 or 3, 1 and 2]);", "false [nil, 2, 2] done nil"},
		{"print([5, 6][1]); print(\"A\"[0]); print({a: 7}[\"a\"]); print(rand([8])[rand(0)]);", "6 65 7 prim rand([8]) | prim rand(0) | 8 done nil"},
		{"print({a: 7}.a); print({a: {b: 8}}.a.b); rand({}).a;", "7 8 prim rand({}) | thrown \"field\""},
		{"nil[rand(1)];", "prim rand(1) | thrown \"type\""}, {"[1][1];", "thrown \"range\""}, {"nil.a;", "thrown \"type\""},
		{"rand(1) + rand(nil);", "prim rand(1) | prim rand(nil) | thrown \"type\""}, {"-nil;", "thrown \"type\""},
		{"print(fn (a) { return a; }); print((fn (a) { return -a; })(3));", "fn:1 safe | safe | -3 done nil"},
		{"fn f(a, b) { return a - b; } print(rand(f)(rand(5), rand(3)));", "safe | prim rand(fn:1) | prim rand(5) | prim rand(3) | safe | safe | 2 done nil"},
		{"nil(rand(1));", "prim rand(1) | thrown \"call\""}, {"1();", "thrown \"call\""}, {"\"print\"(1);", "thrown \"call\""},
		{"(fn (a) { })(rand(1), 2);", "prim rand(1) | thrown \"args\""}, {"(fn (a) { })();", "thrown \"args\""}, {"(fn () { })(1);", "thrown \"args\""},
		{"print();", "thrown \"args\""}, {"print(1, rand(2));", "prim rand(2) | thrown \"args\""},
		{"len();", "thrown \"args\""}, {"len(nil);", "thrown \"type\""}, {"yield(1);", "thrown \"args\""}, {"rand();", "thrown \"args\""},
		{"print(print(1)); print(len(\"abc\")); print(push([], 1)); print(kind(kind));", "1 nil 3 nil \"prim\" done nil"},
		{"{ var p = rand; print(p(4) + now()); }", "prim rand(4) | prim now() | 11 done nil"},
		{"fn f(a) { } print(spawn f(rand(1)));", "safe | prim rand(1) | spawn (fn:1, 1) | 9 done nil"},
		{"spawn print(rand(1));", "prim rand(1) | thrown \"call\""}, {"spawn nil();", "thrown \"call\""},
		{"fn f(a) { } spawn f(); ", "safe | thrown \"args\""}, {"fn f(a) { } spawn f(1, rand(2));", "safe | prim rand(2) | thrown \"args\""},
		{"fn f() { return fn (a) { }; } spawn f()(3);", "safe | safe | safe | spawn (fn:2, 3) | done nil"},
		{"print(try1()); fn try1() { return [1, sleep(3)]; }", "thrown \"call\""},
		{"fn f() { return [1, sleep(3)]; } try { print([2, f()]); } catch e { print(e); }", "safe | safe | prim sleep(3) | \"range\" done nil"},
		{"sleep(2);", "prim sleep(2) | thrown \"zero\""},
	})
}

// P12.2: each primitive from yield on is a stop that tells it and its arguments, and each up to kind is none.
func TestPrimitives(t *testing.T) {
	for p := range api.Prims {
		call := scope.PrimName(p) + "("
		args := ""
		for i := range prim.Arity(p) {
			if i > 0 {
				args += ", "
			}
			args += string("123"[i])
		}
		for _, r := range bothWays(t, parsed(t, "try { "+call+args+"); } catch e { print(e); }"), 100, 10) {
			x, _ := r.start(nil)
			s := x.segment()
			got := name(r.objects(), s)
			if p >= api.PrimYield && got != "prim "+call+args+")" || p < api.PrimYield && got != "done nil" {
				t.Errorf("%s%s): %s", call, args, got)
			}
			x.leave()
		}
	}
}

// P12.2: what is too long to be shown is not put out; a string of the greatest length is made.
func TestLongTexts(t *testing.T) {
	grow := func(rounds string) string {
		return "{ var s = \"a\"; var i = 0; while i < " + rounds + " { s = s + s; i = i + 1; } print(len(s)); print(s); }"
	}
	safe := strings.Repeat("safe | ", 16)
	checkStories(t, 100, 10, []toldRun{
		{grow("16"), safe + "65536 thrown \"long\""},
		{grow("17"), safe + "thrown \"long\""},
		{"try { " + grow("16") + " } catch e { print(e); }", safe + "65536 \"long\" done nil"},
	})
	long := strings.Repeat("x", api.MaxStr)
	l := parsed(t, "try { print(len(\"\")); len(\"x\"); } catch e { print(e); }")
	for i, n := range l {
		if n.Kind == api.NodeStr {
			l[i].Text = long + n.Text
		}
	}
	for i, r := range bothWays(t, l, 100, 10) {
		x, _ := r.start(nil)
		if got := story(r, x); got != "65536 \"long\" done nil" {
			t.Error(i, got)
		}
	}
}

// P12.3: what is declared and set.
func TestDeclaredAndSet(t *testing.T) {
	checkStories(t, 100, 10, []toldRun{
		{"var x = rand(1); print(x); x = rand(2); print(x);", "prim rand(1) | safe | 1 prim rand(2) | safe | 2 done nil"},
		{"{ var x = 1; print(x); x = 2; print(x); }", "1 2 done nil"},
		{"{ var x = 1; fn f() { x = x + 1; } f(); print(x); x = 5; f(); print(x); }", "safe | safe | 2 safe | safe | 6 done nil"},
		{"fn f(a) { var g = fn () { a = a + 1; return fn () { a = a * 2; return a; }; }; print(g()()); return a; } print(f(3));",
			"safe | safe | safe | safe | safe | safe | 8 safe | 8 done nil"},
		{"{ fn f() { return 4; } print(f()); }", "safe | safe | 4 done nil"},
		{"{ fn f(n) { if n < 1 { return 0; } return 1 + f(n - 1); } print(f(2)); }", "safe | safe | safe | safe | safe | safe | 2 done nil"},
		{"{ fn f() { return 1; } { var g = f; f = fn () { return 2; }; print(g() + f()); } fn h() { return f(); } print(h()); }",
			"safe | safe | safe | safe | 3 safe | safe | safe | safe | 2 done nil"},
		{"f(); fn f() { print(1); }", "thrown \"call\""},
		{"fn f() { return g(); } fn g() { return 2; } print(f());", "safe | safe | safe | safe | safe | safe | 2 done nil"},
		{"{ var a = [1, 2]; a[rand(1)] = rand(5); print(a); rand(a)[rand(0)] = rand(6); print(a); }",
			"prim rand(1) | prim rand(5) | [1, 5] prim rand([1, 5]) | prim rand(0) | prim rand(6) | [6, 5] done nil"},
		{"{ var r = {a: 1}; r.b = rand(2); rand(r).a = rand(3); r[\"c\"] = 4; print(r); }",
			"prim rand(2) | prim rand({a: 1, b: 2}) | prim rand(3) | {a: 3, b: 2, c: 4} done nil"},
		{"nil[0] = rand(1);", "prim rand(1) | thrown \"type\""},
		{"nil.a = rand(1);", "prim rand(1) | thrown \"type\""},
		{"[1][rand(1)] = rand(2);", "prim rand(1) | prim rand(2) | thrown \"range\""},
		{"1; nil; print; fn () { }; \"a\"; print(1);", "1 done nil"},
		{"{ var i = 0; var l = []; while i < 3 { var x = i; push(l, fn () { x = x + 10; return x; }); i = i + 1; } print(l[0]()); print(l[2]()); print(l[0]()); }",
			"safe | safe | safe | safe | safe | 10 safe | safe | 12 safe | safe | 20 done nil"},
	})
}

// P12.3: where statements go on.
func TestChoicesAndLoops(t *testing.T) {
	checkStories(t, 100, 10, []toldRun{
		{"if 1 { print(1); } if nil { print(2); } if false { print(3); } if 0 { print(4); } if \"\" { print(5); } if [] { print(6); }", "1 4 5 6 done nil"},
		{"if nil { print(1); } else { print(2); } if true { print(3); } else { print(4); } print(5);", "2 3 5 done nil"},
		{"{ var i = 0; while i < 4 { if i == 0 { print(10); } else if i == 1 { print(11); } else if i == 2 { } else { print(13); } i = i + 1; } }",
			"10 safe | 11 safe | safe | 13 safe | done nil"},
		{"{ var i = 0; while i < 2 { i = i + 1; } print(i); }", "safe | safe | 2 done nil"},
		{"{ var i = 0; while rand(i < 3) { i = i + 1; if i == 2 { continue; } print(i); } }",
			"prim rand(true) | 1 safe | prim rand(true) | safe | prim rand(true) | 3 safe | prim rand(false) | done nil"},
		{"while true { print(1); break; print(2); } print(3);", "1 3 done nil"},
		{"while nil { print(1); } while false { } print(3);", "3 done nil"},
		{"{ var i = 0; while true { while true { print(i); break; } i = i + 1; if i == 2 { break; } } print(9); }", "0 safe | 1 9 done nil"},
		{"{ var i = 0; while i < 3 { i = i + 1; while true { if i == 2 { break; } i = 2; continue; } if i == 2 { i = 3; continue; } print(9); } print(i); }",
			"safe | safe | 3 done nil"},
		{"while true { if rand(1) { print(1); break; } else { break; } } while true { if rand(nil) { break; } break; } print(2);",
			"prim rand(1) | 1 prim rand(nil) | 2 done nil"},
		{"{ var i = 0; while i < 3 { i = i + 1; { var x = i; fn f() { return x; } if i == 2 { continue; } print(f()); } } }",
			"safe | safe | 1 safe | safe | safe | safe | 3 safe | done nil"},
		{"while true { (fn () { while true { break; } print(1); })(); break; }", "safe | 1 safe | done nil"},
		{"{ print(1); { } { print(2); } }", "1 2 done nil"},
	})
}

// P12.3: what calls return.
func TestReturns(t *testing.T) {
	checkStories(t, 100, 10, []toldRun{
		{"fn f() { return; } fn g() { return 5; } fn h() { print(0); } print(f()); print(g()); print(h());",
			"safe | safe | safe | safe | safe | nil safe | safe | 5 safe | 0 safe | nil done nil"},
		{"fn f() { while true { try { return rand(3); } catch e { } } } try { print(f()); throw 4; } catch e { print(e); }",
			"safe | safe | prim rand(3) | safe | 3 4 done nil"},
		{"fn f(n) { if n { return 1; } else { return 2; } } print(f(1)); print(f(nil));", "safe | safe | safe | 1 safe | safe | 2 done nil"},
		{"fn f() { return 1; print(2); } f();", "safe | safe | safe | done nil"},
		{"fn f() { return f; } print(f()()() == f);", "safe | safe | safe | safe | safe | safe | safe | true done nil"},
	})
}

// P12.3: what is thrown and caught.
func TestThrownAndCaught(t *testing.T) {
	checkStories(t, 100, 10, []toldRun{
		{"throw 1; print(2);", "thrown 1"},
		{"throw rand([1, nil]);", "prim rand([1, nil]) | thrown [1, nil]"},
		{"try { print(1); throw 2; print(3); } catch e { print(e); } print(4);", "1 2 4 done nil"},
		{"try { print(1); } catch e { print(e); } print(4);", "1 4 done nil"},
		{"try { } catch e { print(e); } print(4);", "4 done nil"},
		{"try { throw 1; } catch e { } print(4);", "4 done nil"},
		{"try { throw 1; } catch e { throw e + 1; }", "thrown 2"},
		{"try { try { throw 1; } catch e { throw e + 1; } } catch e { print(e); }", "2 done nil"},
		{"try { try { throw 1; } catch e { print(e); } throw 2; } catch e { print(e); }", "1 2 done nil"},
		{"try { try { throw 1; } catch d { } try { throw d2(); } catch e { print(e); } } catch e { print(9); } fn d2() { return 3; }", "\"call\" safe | done nil"},
		{"try { throw 1; } catch e { try { throw e + 1; } catch e { print(e); } print(e); }", "2 1 done nil"},
		{"fn f() { throw 1; } fn g() { f(); print(2); } try { g(); print(3); } catch e { print(e); }", "safe | safe | safe | safe | 1 done nil"},
		{"fn f() { throw 1; } fn g() { try { f(); } catch e { return e + 1; } } try { print(g()); } catch e { print(9); }", "safe | safe | safe | safe | safe | 2 done nil"},
		{"fn f() { throw 1; } print(f()); print(2);", "safe | safe | thrown 1"},
		{"try { print([1, [2, 3 + {a: nil}.a]]); } catch e { print(e); }", "\"type\" done nil"},
		{"try { [1, 2][rand(2)] = 5; } catch e { print(e); }", "prim rand(2) | \"range\" done nil"},
		{"try { throw 5; } catch e { var f = fn () { e = e + 1; return e; }; f(); print(e); }", "safe | safe | 6 done nil"},
		{"{ var i = 0; while i < 2 { try { throw i; } catch e { i = i + 1; continue; } print(9); } }", "safe | safe | done nil"},
		{"try { while true { try { break; } catch e { print(1); } } throw 2; } catch e { print(e); }", "2 done nil"},
		{"{ var i = 0; try { while i < 3 { try { i = i + 1; continue; } catch e { print(1); } } throw 2; } catch e { print(e); } }", "safe | safe | safe | 2 done nil"},
		{"while true { try { throw 1; } catch e { break; } } print(2);", "2 done nil"},
		{"fn f() { try { return 1; } catch e { return 2; } } try { f(); throw 3; } catch e { print(e); }", "safe | safe | safe | 3 done nil"},
		{"var x = 0; try { x = 1; throw x; } catch e { print(e); x = 2; } print(x);", "safe | safe | 1 safe | 2 done nil"},
		{"try { if nil.a { } } catch e { print(e); } try { while nil.a { } } catch e { print(e); } try { return1(nil.a); } catch e { print(e); } fn return1() { }",
			"\"type\" \"type\" \"type\" safe | done nil"},
		{"try { sleep(1); } catch e { print(e); }", "prim sleep(1) | \"type\" done nil"},
		{"fn f() { sleep(8); } try { f(); } catch e { print(e); } sleep(7);", "safe | safe | prim sleep(8) | \"state\" prim sleep(7) | thrown \"args\""},
		{"try { spawn nil(); } catch e { print(e); }", "\"call\" done nil"},
	})
}

// P12.2, P12.3, P12.5: which objects are made, in which order.
func TestObjects(t *testing.T) {
	for _, c := range []struct{ text, want string }{
		{"[\"a\", {b: \"c\", d: [\"e\"]}];", "\"a\" \"c\" \"e\" [\"e\"] {b: \"c\", d: [\"e\"]} [\"a\", {b: \"c\", d: [\"e\"]}]"},
		{"{ var i = 0; while i < 2 { \"a\"; i = i + 1; } }", "\"a\" \"a\""},
		{"{ var x = \"a\"; fn f() { return x; } }", "\"a\" &\"a\" fn:1"},
		{"{ fn f() { return f; } }", "&fn:1 fn:1"},
		{"{ fn f() { } fn g() { return f; } }", "&fn:1 fn:1 fn:2"},
		{"{ fn f() { } }", "fn:1"},
		{"fn f() { return f; }", "fn:1"},
		{"{ var f = fn () { }; fn g() { return f; } }", "fn:1 &fn:1 fn:2"},
		{"try { throw \"a\"; } catch e { fn () { return e; }; }", "\"a\" &\"a\" fn:1"},
		{"try { 1 / 0; } catch e { fn () { return e; }; }", "\"zero\" &\"zero\" fn:1"},
		{"try { } catch e { fn () { return e; }; }", ""},
		{"fn f(a, b, c) { return fn () { return [c, a]; }; } f(1, 2, 3)();", "fn:1 &1 &3 fn:2 [3, 1]"},
		{"{ var x = 1; x = 2; fn f() { x = 3; } }", "&2 fn:1"},
		{"{ var x = 1; var f = fn () { return fn () { x = \"b\"; }; }; f()(); print(x); }", "&\"b\" fn:1 fn:2 \"b\""},
		{"cx(1, 2) + 1; - cx(0, 0) ;", "(3ff0000000000000,4000000000000000) (4000000000000000,4000000000000000) (0000000000000000,0000000000000000) (0000000000000000,0000000000000000)"},
		{"nil and \"a\"; true or \"b\"; nil or \"c\"; true and \"d\";", "\"c\" \"d\""},
		{"if \"a\" { \"b\"; } else { \"c\"; }", "\"a\" \"b\""},
		{"\"a\"[\"b\"] = \"c\";", "\"a\" \"b\" \"c\" \"type\""},
		{"\"a\".b = \"c\";", "\"a\" \"c\" \"type\""},
	} {
		for i, r := range bothWays(t, parsed(t, c.text), 100, 10) {
			x, _ := r.start(nil)
			story(r, x)
			if got := allObjects(r.objects()); got != c.want {
				t.Errorf("%s (%d):\n%s, not\n%s", c.text, i, got, c.want)
			}
		}
	}
}
