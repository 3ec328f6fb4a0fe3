package base

import (
	"fmt"
	"strings"
	"testing"

	"jacquard/api"
	"jacquard/prim"
	"jacquard/scope"
	"jacquard/tag"
)

// checkCode runs what stands for function 0 (with three slots), beside the two functions: 1 returns its two arguments as an array, 2 takes slot 0 and tells what is in it.
func checkCode(t *testing.T, most, depth int, tries []api.Try, l []toldRun) {
	t.Helper()
	for _, c := range l {
		im := imageOf(fun(0, 3, c.text), fun(2, 2, "load 0; load 1; list 2; return"), fun(0, 0, "loadcap 0; return"))
		im.Funs[0].Tries = tries
		im.Funs[2].Caps = []api.Cap{{Own: 1, N: 0}}
		im.Strs = append(im.Strs, strings.Repeat("x", api.MaxStr), strings.Repeat("x", api.MaxStr+1))
		m := machineOf(t, im, most, depth)
		if got := story(m, m.Main()); got != c.want {
			t.Errorf("%s: %.300s, not %s", c.text, got, c.want)
		}
	}
}

// P13.3, P10.1: each instruction.
func TestInstructions(t *testing.T) {
	checkCode(t, 20, 3, nil, []toldRun{
		{"int 5; return", "done 5"},
		{fmt.Sprintf("int %d; return", api.MinInt), "done -2305843009213693952"},
		{fmt.Sprintf("int %d; return", api.MaxInt), "done 2305843009213693951"},
		{"atom 0; return", "done nil"}, {"atom 1; return", "done false"}, {"atom 2; return", "done true"},
		{"str 1; return", `done "b"`}, {"str 1; str 1; bin 5; return", "done true"},
		{"str 3; prim 1; str 3; call 1; return", "done 65536"},
		{"str 4; return", `thrown "long"`},
		{"prim 0; return", "done prim:0"}, {"prim 29; return", "done prim:29"},
		{"int 1; int 2; pop; return", "done 1"},
		{"load 2; return", "done nil"}, {"int 4; store 2; load 2; return", "done 4"}, {"int 4; store 2; load 1; return", "done nil"},
		{"int 4; store 1; box 1; load 1; return", "done &4"}, {"box 1; load 1; return", "done &nil"}, {"box 1; box 1; load 1; return", "done &&nil"},
		{"int 4; store 1; box 1; loadcell 1; return", "done 4"},
		{"box 1; int 6; storecell 1; load 1; return", "done &6"},
		{"box 1; load 1; store 2; int 6; storecell 1; loadcell 2; return", "done 6"},
		{"box 0; fun 2; int 7; storecell 0; call 0; return", "safe | safe | done 7"},
		{"box 0; fun 2; return", "done fn:2"},
		{"loadglobal 1; return", "done nil"}, {"int 3; storeglobal 1; loadglobal 1; return", "safe | done 3"}, {"int 3; storeglobal 1; loadglobal 0; return", "safe | done nil"},
		{"list 0; return", "done []"}, {"int 1; int 2; int 3; list 2; return", "done [2, 3]"},
		{"rec 0; return", "done {}"}, {"int 1; int 2; rec 2; return", "done {c: 1, a: 2}"}, {"int 1; int 2; rec 1; list 2; return", "done [1, {b: 2}]"},
		{"fun 1; return", "done fn:1"},
		{"int 7; int 2; bin 0; return", "done 9"}, {"int 7; int 2; bin 1; return", "done 5"}, {"int 7; int 2; bin 2; return", "done 14"},
		{"int 7; int 2; bin 3; return", "done 3"}, {"int 7; int 2; bin 4; return", "done 1"}, {"int 7; int 2; bin 5; return", "done false"},
		{"int 7; int 2; bin 6; return", "done true"}, {"int 7; int 2; bin 7; return", "done false"}, {"int 7; int 2; bin 8; return", "done false"},
		{"int 7; int 2; bin 9; return", "done true"}, {"int 7; int 2; bin 10; return", "done true"}, {"str 0; str 1; bin 0; return", `done "ab"`},
		{"int 7; int 0; bin 3; return", `thrown "zero"`}, {"int 7; atom 0; bin 0; return", `thrown "type"`},
		{"atom 0; not; return", "done true"}, {"int 0; not; return", "done false"},
		{"int 5; neg; return", "done -5"}, {"atom 2; neg; return", `thrown "type"`},
		{"jump 2; throw; int 1; return", "done 1"},
		{"atom 1; false 4; int 1; return; int 2; return", "done 2"}, {"atom 0; false 4; int 1; return; int 2; return", "done 2"}, {"int 0; false 4; int 1; return; int 2; return", "done 1"},
		{"atom 1; keepfalse 3; int 1; return", "done false"}, {"int 0; keepfalse 3; int 1; return", "done 1"},
		{"atom 1; keeptrue 3; int 1; return", "done 1"}, {"int 0; keeptrue 3; int 1; return", "done 0"},
		{"load 0; false 4; int 1; return; int 1; store 0; loop 0", "safe | done 1"},
		{"fun 1; int 1; int 2; call 2; return", "safe | safe | done [1, 2]"},
		{"int 9; fun 1; int 1; int 2; call 2; list 2; return", "safe | safe | done [9, [1, 2]]"},
		{"fun 1; int 1; int 2; spawn 2; return", "spawn(fn:1, 1, 2) | done 9"},
		{"int 1; throw", "thrown 1"},
		{"int 5; int 6; list 2; int 1; index; return", "done 6"}, {"int 5; list 1; int 1; index; return", `thrown "range"`},
		{"int 5; list 1; store 0; load 0; int 0; int 8; setindex; load 0; return", "done [8]"},
		{"list 0; int 0; int 8; setindex; atom 0; return", `thrown "range"`},
		{"int 5; rec 1; field 1; return", "done 5"}, {"int 5; rec 1; field 0; return", `thrown "field"`},
		{"rec 0; store 0; load 0; int 8; setfield 2; load 0; return", "done {c: 8}"}, {"int 0; int 8; setfield 2; load 0; return", `thrown "type"`},
	})
}

// P13.3, P10.1: what is no cell where one is asked; an array, which has entries, too, is none.
func TestNoCells(t *testing.T) {
	for _, put := range []string{"", "int 0; list 1; store 0; ", "str 0; store 0; ", "int 2; store 0; ", "fun 2; store 0; ", "rec 0; store 0; "} {
		checkCode(t, 20, 3, nil, []toldRun{
			{put + "loadcell 0; return", `thrown "type"`},
			{put + "int 1; storecell 0; atom 0; return", `thrown "type"`},
			{put + "fun 2; call 0; return", `safe | thrown "type"`},
		})
	}
}

// P13.3: where the heap is full.
func TestFullHeap(t *testing.T) {
	for _, text := range []string{"str 0", "list 0", "rec 0", "fun 1", "box 1; load 1"} {
		n := len(ops(text)) // all of it is within a Try
		checkCode(t, 1, 3, []api.Try{{From: 1, To: n + 1, Target: n + 4}}, []toldRun{
			{fmt.Sprintf("list 0; %s; pop; pop; jump %d; pop; atom 0; return", text, n+5), "dead heap"},
		})
	}
	checkCode(t, 1, 3, nil, []toldRun{
		{"list 0; int 1; int 0; bin 3; return", "dead heap"},
		{"int 1; int 0; bin 3; return", `thrown "zero"`},
		{"list 0; str 4; return", "dead heap"},
		{"str 4; return", `thrown "long"`},
		{"list 0; call 0; return", "dead heap"},
		{"list 0; throw", "thrown []"},
	})
	m := compiled(t, "fn f(a, b) { return fn () { return [a, b]; }; } try { f(1, 2); } catch e { }", 2, 3)
	if got := story(m, m.Main()); got != "safe | dead heap" || allObjects(m.Heap()) != "fn:1 &1" {
		t.Error(got, allObjects(m.Heap()))
	}
	m = compiled(t, "fn f(a) { return fn () { return a; }; } try { f(1); } catch e { }", 1, 1)
	if got := story(m, m.Main()); got != "safe | dead depth" { // ahead of the cell that there is no room for
		t.Error(got)
	}
}

// P13.3, P10.2: which Try has an instruction.
func TestTries(t *testing.T) {
	// An instruction that throws stands at 3, two values below what it takes; the targets at 8, 9, 10 put 8, 9, 10 with what is below into an array.
	text := "int 1; int 2; int 3; throw; pop; pop; atom 0; return; list 1; list 1; list 1; return"
	for _, c := range []struct {
		tries []api.Try
		want  string
	}{
		{nil, "thrown 3"},
		{[]api.Try{{From: 3, To: 4, Target: 8}}, "done [[[3]]]"},
		{[]api.Try{{From: 0, To: 8, Target: 10}}, "done [3]"},
		{[]api.Try{{From: 3, To: 3, Target: 8}}, "thrown 3"},
		{[]api.Try{{From: 4, To: 8, Target: 8}}, "thrown 3"},
		{[]api.Try{{From: 0, To: 3, Target: 8}}, "thrown 3"},
		{[]api.Try{{From: 4, To: 5, Target: 8}, {From: 3, To: 4, Target: 10}, {From: 3, To: 4, Target: 8}}, "done [3]"},
		{[]api.Try{{From: 0, To: 5, Target: 9}, {From: 3, To: 4, Target: 8}}, "done [[3]]"},
	} {
		checkCode(t, 20, 3, c.tries, []toldRun{{text, c.want}})
	}
	checkCode(t, 20, 3, []api.Try{{From: 3, To: 4, Target: 6, Depth: 2}}, []toldRun{{"int 1; int 2; int 3; throw; atom 0; return; list 3; return", "done [1, 2, 3]"}})
	checkCode(t, 20, 3, []api.Try{{From: 3, To: 4, Target: 6, Depth: 1}}, []toldRun{{"int 1; int 2; int 3; throw; atom 0; return; list 2; return", "done [1, 3]"}})
	// What is thrown in a call that was begun within a Try, and behind the last of it.
	m := compiled(t, "fn f(n) { if n { throw n; } } try { f(1); } catch e { print(e); } try { f(nil); } catch e { print(2); } f(3);", 20, 3)
	if got := story(m, m.Main()); got != "safe | safe | 1 safe | safe | safe | thrown 3" {
		t.Error(got)
	}
}

// P13.3: what is called that is no function of the machine, or with another number of values.
func TestWrongCalls(t *testing.T) {
	for _, c := range []string{"int 1", "atom 0", "atom 2", "str 0", "list 0", "rec 0", "box 0; load 0"} {
		checkCode(t, 20, 3, nil, []toldRun{
			{c + "; call 0; return", `thrown "call"`},
			{c + "; int 1; call 1; return", `thrown "call"`},
			{c + "; spawn 0; return", `thrown "call"`},
			{c + "; int 1; int 2; spawn 2; return", `thrown "call"`},
		})
	}
	checkCode(t, 20, 1, nil, []toldRun{
		{"fun 1; call 0; return", `thrown "args"`}, {"fun 1; int 1; call 1; return", `thrown "args"`},
		{"fun 1; int 1; int 2; int 3; call 3; return", `thrown "args"`},
		{"fun 1; spawn 0; return", `thrown "args"`}, {"fun 1; int 1; spawn 1; return", `thrown "args"`},
		{"fun 1; int 1; int 2; int 3; spawn 3; return", `thrown "args"`},
		{"fun 2; int 1; spawn 1; return", `thrown "args"`},
		{"fun 1; int 1; int 2; call 2; return", "dead depth"},
		{"fun 1; int 1; int 2; spawn 2; return", "spawn(fn:1, 1, 2) | done 9"}, // a thread of its own
		{"prim 14; spawn 0; return", `thrown "call"`}, {"prim 1; str 0; spawn 1; return", `thrown "call"`},
	})
	// Functions of numbers that the image has not, and primitives that there are not.
	for op, want := range map[int]string{api.OpCall: `thrown "call"`, api.OpSpawn: `thrown "call"`} {
		m := machineOf(t, imageOf(api.Code{Code: []api.Instr{{Op: api.OpLoadGlobal}, {Op: op}, {Op: api.OpReturn}}}), 9, 9)
		m.globals[0], _ = m.Heap().Fun(1, nil)
		if got := story(m, m.Main()); got != want {
			t.Error(got)
		}
	}
	for n := range 4 {
		m := machineOf(t, imageOf(fun(0, 0, "prim 17; int 1; call 1; "+strings.Repeat("int 1; ", n)+fmt.Sprintf("call %d; return", n))), 9, 9)
		x := m.Main()
		m.Segment(x)
		if e := m.Resume(x, mustMake(t)(tag.Prim(api.Prims))); e != api.OK {
			t.Fatal(e)
		}
		if got := told(m.Heap(), m.Segment(x)); got != `thrown "args"` {
			t.Error(got)
		}
	}
}

// P13.3: each primitive, with as many arguments as it takes, and with others.
func TestPrimitives(t *testing.T) {
	for p := range api.Prims {
		for n := range 5 {
			var args, values []string
			for i := range n {
				args = append(args, fmt.Sprintf("int %d; ", i))
				values = append(values, fmt.Sprint(i))
			}
			m := machineOf(t, imageOf(fun(0, 0, fmt.Sprintf("prim %d; %scall %d; return", p, strings.Join(args, ""), n))), 9, 9)
			x := m.Main()
			s := m.Segment(x)
			got := told(m.Heap(), s)
			switch {
			case n != prim.Arity(p):
				if got != `thrown "args"` {
					t.Errorf("primitive %d of %d: %s", p, n, got)
				}
			case p >= api.PrimYield:
				if want := scope.PrimName(p) + "(" + strings.Join(values, ", ") + ")"; got != want || s.Prim != p || !x.Waits() || x.Ended() {
					t.Errorf("primitive %d of %d: %s", p, n, got)
				}
			case s.Kind != api.StopDone && s.Kind != api.StopThrown:
				t.Errorf("primitive %d of %d: %s", p, n, got)
			}
		}
	}
	for _, c := range []toldRun{
		{"print(print(5));", "5 nil done nil"},
		{"print(len(\"abc\")); print(kind(1)); print(same([1], [1])); print(text(\"a\"));", `3 "int" true "\"a\"" done nil`},
		{"var l = [1]; push(l, 2); print(pop(l)); print(l); print(keys({a: 1}));", `safe | 2 [1] ["a"] done nil`},
		{"var r = {a: 1}; put(r, \"b\", 2); print(has(r, \"b\")); print(get(r, \"c\")); print(r);", "safe | true nil {a: 1, b: 2} done nil"},
		{"print(re(cx(3, 4))); print(im(cx(3, 4)));", "3 4 done nil"},
		{"pop([]);", `thrown "range"`}, {"len(1);", `thrown "type"`}, {"print();", `thrown "args"`},
	} {
		m := compiled(t, c.text, 30, 3)
		if got := story(m, m.Main()); got != c.want {
			t.Errorf("%s: %s, not %s", c.text, got, c.want)
		}
	}
}

// P13.3: what is too long to be put out is not.
func TestPrintLong(t *testing.T) {
	im := imageOf(fun(0, 0, "prim 0; str 0; call 1; return"))
	for _, c := range []struct {
		long int
		want string
	}{{api.MaxShow - 2, "done nil"}, {api.MaxShow - 1, `thrown "long"`}} {
		im.Strs[0] = strings.Repeat("x", c.long)
		m := machineOf(t, im, 9, 9)
		s := m.Segment(m.Main())
		if got := told(m.Heap(), s); got != c.want || len(m.Out()) != 5-int(s.Kind) {
			t.Error(got, len(m.Out()))
		}
	}
}

// P13.3: where segments end.
func TestSegments(t *testing.T) {
	for _, c := range []toldRun{
		{"", "done nil"},
		{"print(1); { var x = 2; x = 3; print(x); if x { print(4); } }", "1 3 4 done nil"},
		{"var x = 1; print(x); x = 2; print(x);", "safe | 1 safe | 2 done nil"},
		{"{ var i = 0; while i < 2 { print(i); i = i + 1; } print(9); }", "0 safe | 1 safe | 9 done nil"},
		{"fn f() { print(1); } print(0); f(); print(2);", "safe | 0 safe | 1 safe | 2 done nil"},
		{"fn f() { return; } spawn f(); print(2);", "safe | spawn(fn:1) | 2 done nil"},
		{"print(now()); print(rand(3)); yield(); print(4);", "now() | 7 rand(3) | 3 yield() | 4 done nil"},
		{"fn f() { throw 1; } try { f(); } catch e { print(e); } print(2);", "safe | safe | 1 2 done nil"},
		{"try { nil(); } catch e { print(e); } print(2);", `"call" 2 done nil`},
		{"fn f() { return rand(f); } print(f() == f);", "safe | safe | rand(fn:1) | safe | true done nil"},
		{"fn f(n) { if n == 0 { throw n; } f(n - 1); } f(2);", "safe | safe | safe | safe | thrown 0"},
	} {
		m := compiled(t, c.text, 30, 9)
		if got := story(m, m.Main()); got != c.want {
			t.Errorf("%s: %s, not %s", c.text, got, c.want)
		}
	}
}

// P13.3: a thread that waits tells the same stop again; what it told may be written over.
func TestStopsAgain(t *testing.T) {
	for _, text := range []string{"print(8); print(send([1], 2));", "fn f(a, b) { } print(8); print(spawn f([1], 2));"} {
		m := compiled(t, text, 30, 9)
		x := m.Main()
		s := m.Segment(x)
		for s.Kind == api.StopSafe {
			s = m.Segment(x)
		}
		want := told(m.Heap(), s)
		calls, objects := plainViews(x.Calls()), allObjects(m.Heap())
		for range 3 {
			spare := s.Args[:cap(s.Args)]
			for i := range spare {
				spare[i] = 13
			}
			s = m.Segment(x)
			if got := told(m.Heap(), s); got != want || !x.Waits() || x.Ended() {
				t.Errorf("%s: %s, not %s", text, got, want)
			}
		}
		if plainViews(x.Calls()) != calls || allObjects(m.Heap()) != objects || len(m.Out()) != 1 {
			t.Error(text, "something was done")
		}
		m.Resume(x, tag.Int(5))
		if got := story(m, x); got != "5 done nil" {
			t.Error(text, got)
		}
	}
}

// P13.3: a thread that ended tells the same stop again.
func TestEndedAgain(t *testing.T) {
	for _, c := range []toldRun{
		{"print(1);", "done nil"},
		{"print(1); throw [2];", "thrown [2]"},
		{"print(1); nil();", `thrown "call"`},
		{"print(1); fn f() { f(); } f();", "dead depth"},
		{"print(1); while true { []; }", "dead heap"},
	} {
		m := compiled(t, c.text, 5, 3)
		x := m.Main()
		s := m.Segment(x)
		for ; s.Kind == api.StopSafe; s = m.Segment(x) {
			if x.Ended() {
				t.Error(c.text, "ended too early")
			}
		}
		objects := allObjects(m.Heap())
		for range 3 {
			if got := told(m.Heap(), s); got != c.want || x.Waits() || !x.Ended() || len(x.Calls()) != 0 {
				t.Errorf("%s: %s, not %s", c.text, got, c.want)
			}
			s = m.Segment(x)
		}
		if allObjects(m.Heap()) != objects || len(m.Out()) != 1 {
			t.Error(c.text, "something was done")
		}
	}
}
