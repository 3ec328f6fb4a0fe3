package tier

import (
	"fmt"
	"slices"
	"strings"
	"testing"

	"jacquard/api"
	"jacquard/base"
	"jacquard/tag"
)

// runStory compiles a program, lets its first thread go on so many segments, gives functions faster code, one after another, and tells the machine and the thread.
func runStory(t *testing.T, text string, segments int, how api.How, funs ...int) (*Machine, *base.Thread) {
	t.Helper()
	m := compiled(t, text, 30, 8)
	x := m.Main()
	goOn(t, m, x, segments)
	for _, f := range funs {
		wantTier(t, m, f, how, api.OK)
	}
	return m, x
}

// stepByStep lets a thread go on to its end: what changes each segment brings, from the first that brings some on.
func stepByStep(t *testing.T, m *Machine, x *base.Thread) string {
	t.Helper()
	var l []string
	for n := len(m.Changes()); !x.Ended(); {
		goOn(t, m, x, 1)
		var words []string
		for _, c := range m.Changes()[n:] {
			n++
			words = append(words, fmt.Sprint([]string{"made ", "ended ", "entered ", "left "}[c.Kind-1], c.Id))
		}
		if len(l) > 0 || len(words) > 0 {
			l = append(l, strings.Join(words, ", "))
		}
	}
	return strings.TrimRight(strings.Join(l, " | "), " |")
}

// P17.3: when versions are entered and end, and when calls are left, segment by segment.
func TestWhenChangesCome(t *testing.T) {
	for _, c := range []struct {
		text     string
		segments int // till all globals are there
		funs     []int
		want     string
	}{
		// a call begins, turns, calls, returns: no more than entered
		{"fn f() { var i = 0; while i < 2 { i = i + 1; g(); } return i; } fn g() { } f();", 2, []int{1}, "entered 0"},
		{"fn f() { var i = 0; while i < 2 { i = i + 1; g(); } return i; } fn g() { } f();", 2, []int{2, 1}, "entered 1 | entered 0 |  |  | entered 0"},
		// its own write ends it: it goes on as an ordinary one when its thread does
		{"fn f() { k = k + 1; return k; } var k = 1; f(); f();", 2, []int{1}, "entered 0 | ended 0 | left 0"},
		// the same value again ends nothing; what it does not count on, either
		{"fn f() { k = 1; j = 2; return k; } var k = 1; var j = 1; f(); k = 3;", 3, []int{1}, "entered 0 |  |  |  | ended 0"},
		// a call within it ended it: it goes on as an ordinary one when it is returned into, and not twice
		{"fn f() { return g() + k; } fn g() { k = 2; yield(); return 1; } var k = 1; f();", 3, []int{1}, "entered 0 |  | ended 0 |  | left 0"},
		{"fn f(n) { if n > 0 { f(n - 1); } k = n; return k; } var k = 5; f(2);", 2, []int{1}, "entered 0 | entered 0 | entered 0 | ended 0 | left 0, left 0 |  | left 0"},
		// several end, in order of their numbers
		{"fn f() { return k; } fn g() { return k; } fn h() { return k; } var k = 1; k = 2; k = 3;", 4, []int{3, 1, 2}, "ended 0, ended 1, ended 2"},
		// what is thrown in it is not caught within calls of its: it goes on as an ordinary one, whoever catches
		{"fn f() { try { throw 1; } catch e { yield(); return e; } } f();", 1, []int{1}, "entered 0 | left 0"},
		{"fn f() { try { return 1 / 0; } catch e { return e; } } f();", 1, []int{1}, "entered 0 | left 0"},
		{"fn f() { throw 1; } try { f(); } catch e { print(e); }", 1, []int{1}, "entered 0 | left 0"},
		{"fn f() { throw 1; } f();", 1, []int{1}, "entered 0 | left 0"},
		{"fn f() { try { g(); } catch e { yield(); return e; } } fn g() { throw 1; } f();", 2, []int{1, 2}, "entered 0 | entered 1 | left 1, left 0"},
		{"fn f() { g(); } fn g() { nil(); } fn h() { f(); } try { h(); } catch e { }", 3, []int{1, 2, 3}, "entered 2 | entered 0 | entered 1 | left 1, left 0, left 2"},
		// what is caught within calls of its does not concern it
		{"fn f() { g(); return 1; } fn g() { try { h(); } catch e { return e; } } fn h() { throw 1; } f();", 3, []int{1}, "entered 0"},
		{"fn f() { g(); return 1; } fn g() { try { h(); } catch e { return e; } } fn h() { throw 1; } f();", 3, []int{1, 2, 3}, "entered 0 | entered 1 | entered 2 | left 2, left 1"},
		// what ends a thread at once is not thrown
		{"fn f(n) { return f(n); } f(1);", 1, []int{1}, "entered 0 | entered 0 | entered 0 | entered 0 | entered 0 | entered 0 | entered 0"},
		{"fn f() { while true { [1]; } } f();", 1, []int{1}, "entered 0"},
		// an ordinary call stays one
		{"fn f(n) { if n > 2 { return 1; } return f(n + 1); } f(0);", 3, []int{1}, "entered 0 | entered 0"},
		// calls that began and that which ended it: each for itself
		{"fn f(n) { yield(); if n == 1 { k = 2; } return k; } fn g() { return f(0) + f(1) + f(0); } var k = 1; g();", 3, []int{2, 1}, "entered 0 | entered 1 |  |  | entered 1 |  | ended 1 | left 1"},
	} {
		m, x := runStory(t, c.text, c.segments, api.How{}, c.funs...)
		if got := stepByStep(t, m, x); got != c.want {
			t.Errorf("%s:\n%s, not\n%s", c.text, got, c.want)
		}
	}
}

// P17.3: a call that waits goes on as an ordinary one neither when its version ends, nor when it is asked again, nor when it is handed what it waits for, but when it goes on; or when a fault is thrown into it.
func TestLeftWhenItGoesOn(t *testing.T) {
	text := "fn f() { try { yield(); } catch e { return e; } return k; } var k = 1; spawn f(); k = 2; k = 3;"
	for fault := range 3 {
		m, x := runStory(t, text, 3, api.How{}, 1)
		f, _ := m.Global(0)
		y, _ := m.Spawn([]api.Value{f})
		wantChanges(t, m, "made 0 of 1, entered 0 of 1")
		m.Segment(y)
		goOn(t, m, x, 1)
		before := "made 0 of 1, entered 0 of 1, ended 0 of 1"
		wantChanges(t, m, before)
		m.Segment(y)
		goOn(t, m, x, 1)
		y.Calls()
		wantChanges(t, m, before)
		want := "done 12"
		switch fault {
		case 0:
			m.Resume(y, api.Nil)
			wantChanges(t, m, before)
			y.Calls()
			m.Segment(y)
			wantChanges(t, m, before+", left 0 of 1")
		case 1:
			m.Fault(y, api.FaultState)
			wantChanges(t, m, before+", left 0 of 1")
			want = "caught"
		case 2:
			m.Fault(y, api.FaultHeap)
			wantChanges(t, m, before)
			want = "dead"
		}
		s := toTheEnd(t, m, y)
		if got := []string{"done " + fmt.Sprint(s.Value), "caught", "dead"}[fault]; got != want || (s.Kind == api.StopDead) != (fault == 2) {
			t.Error(got, s)
		}
	}
}

// P17.3: calls begin by a version where threads begin, too; those that could not begin did not.
func TestEnteredByThreads(t *testing.T) {
	m := compiled(t, "fn f(a) { var g = fn () { return a; }; return k; } var k = 1; k = 2;", 3, 5)
	x := m.Main()
	goOn(t, m, x, 2)
	wantTier(t, m, 1, api.How{}, api.OK)
	wantTier(t, m, 0, api.How{}, api.OK)
	f, _ := m.Global(0)
	y, fault := m.Spawn([]api.Value{f, api.Nil})
	if fault != api.FaultNone {
		t.Fatal(fault)
	}
	wantChanges(t, m, "made 0 of 1, made 1 of 0, entered 0 of 1")
	m.Spawn([]api.Value{f})
	m.Spawn([]api.Value{api.Nil})
	m.Spawn(nil)
	m.Heap().Str(nil)
	if _, fault := m.Spawn([]api.Value{f, api.Nil}); fault != api.FaultHeap { // there is no room for a's cell
		t.Fatal(fault)
	}
	wantChanges(t, m, "made 0 of 1, made 1 of 0, entered 0 of 1")
	wantHeat(t, m, 1, 1, api.OK)
	wantHeat(t, m, 0, 1, api.OK)
	m.Main()
	wantChanges(t, m, "made 0 of 1, made 1 of 0, entered 0 of 1, entered 1 of 0")
	wantHeat(t, m, 0, 2, api.OK)
	if len(y.Calls()) != 1 || y.Calls()[0].At != 0 {
		t.Error(y.Calls())
	}
	goOn(t, m, x, 1) // ends it ahead of its first instruction
	view := y.Calls()[0]
	wantChanges(t, m, "made 0 of 1, made 1 of 0, entered 0 of 1, entered 1 of 0, ended 0 of 1")
	m.Segment(y)
	wantChanges(t, m, "made 0 of 1, made 1 of 0, entered 0 of 1, entered 1 of 0, ended 0 of 1, left 0 of 1")
	if !y.Ended() || len(view.Slots) != 2 || view.Slots[1] != api.Nil {
		t.Error(y.Ended(), view)
	}
}

// P17.3: with Guard 1 operations that had to do with numbers alone count on them: calls go on as ordinary ones, versions stay.
func TestGuards(t *testing.T) {
	for _, c := range []struct{ text, first, guarded string }{
		{"fn f(n) { return n + n; }", "f(1); f(2);", "left"},
		{"fn f(n) { return n < 3; }", "f(1); f(2);", "left"},
		{"fn f(n) { return n == nil; }", "f(1); f(2);", ""},
		{"fn f(n) { return n == nil; }", "f(nil); f(nil);", ""},
		{"fn f(n) { return n + n; }", `f(1); f("b");`, ""},
		{"fn f(n) { return n + n; }", `f("b"); f(1);`, ""},
		{"fn f(n) { return n == 1; }", `f(1); f(nil);`, ""},
		{"fn f(n) { return n == 1; }", `f(1); f(2);`, "left"},
		{"fn f(n) { return -n; }", `f(1); f(2);`, "left"},
		{"fn f(n) { return -n; }", `f(1); f(cx(1, 2));`, ""},
		{"fn f(n) { return not n; }", `f(1); f(2);`, ""},
		{"fn f(n) { return [n][0]; }", `f(1); f(2);`, ""},
		{"fn f(n) { if not n { return n + n; } return n; }", `f(1); f(2);`, ""},
	} {
		for guard := range 2 {
			text := c.text + " " + c.first + ` try { print(f("a")); } catch e { print(e); } print(f(5));`
			m, x := runStory(t, text, 5, api.How{Guard: guard}, 1)
			toTheEnd(t, m, x)
			want := "made 0 of 1, entered 0 of 1, "
			if guard == 1 && c.guarded == "left" || strings.HasPrefix(c.text, "fn f(n) { return -") || strings.Contains(c.text, "<") {
				want += "left 0 of 1, " // by the guard, or by what is thrown
			}
			want += "entered 0 of 1"
			if got := changes(m); got != want {
				t.Errorf("%s, guard %d: %s, not %s", text, guard, got, want)
			}
			wantFast(t, m, 1, 0, true)
		}
	}
}

// P17.2, P17.3: what operations had to do with is seen in faster code, too, each of their values: what had to do with something else than numbers does not count on them.
func TestSeenByFasterCode(t *testing.T) {
	for _, c := range []struct{ value, fast, then, want string }{
		{"n + n", `f("a", 1);`, `f("b", 1);`, ""},
		{"n + n", "f(2, 2);", `f("b", 1);`, "left"},
		{"n == m", `f(1, "a");`, `f(1, "b");`, ""},
		{"n == m", `f("a", 1);`, `f(1, "b");`, ""},
		{"n == m", "f(2, 2);", `f(1, "b");`, "left"},
		{"n == m", "f(2, 2);", `f("b", 1);`, "left"},
		{"-n", "f(cx(1, 2), 1);", "f(cx(1, 2), 1);", ""},
		{"-n", "f(2, 2);", "f(cx(1, 2), 1);", "left"},
	} {
		text := "fn f(n, m) { k; return " + c.value + "; } var k = 1; f(1, 1); " + c.fast + " k = 2; " + c.then
		m, x := runStory(t, text, 4, api.How{}, 1)
		goOn(t, m, x, 3)
		wantChanges(t, m, "made 0 of 1, entered 0 of 1, ended 0 of 1")
		wantTier(t, m, 1, api.How{Guard: 1}, api.OK)
		toTheEnd(t, m, x)
		want := "made 0 of 1, entered 0 of 1, ended 0 of 1, made 1 of 1, entered 1 of 1"
		if c.want != "" {
			want += ", left 1 of 1"
		}
		wantChanges(t, m, want)
	}
}

// P17.2, P17.3: what a call within has to do with is its own function's.
func TestSeenWithin(t *testing.T) {
	for _, c := range []struct{ fast, want string }{
		{`f("a");`, ""},
		{"f(2);", ", left 1 of 1"},
	} {
		text := "fn g(n) { return n + n + n; } fn f(n) { return g(n); } g(1); " + c.fast + ` g("b");`
		m, x := runStory(t, text, 4, api.How{Inline: 1}, 2)
		goOn(t, m, x, 4)
		wantChanges(t, m, "made 0 of 2, entered 0 of 2")
		wantTier(t, m, 1, api.How{Guard: 1}, api.OK)
		toTheEnd(t, m, x)
		wantChanges(t, m, "made 0 of 2, entered 0 of 2, made 1 of 1, entered 1 of 1"+c.want)
	}
}

// P17.3, P17.4: calls within stand as calls, count as calls, and are left together: that is one call by a version.
func TestCallsWithin(t *testing.T) {
	text := "fn h(n) { yield(); if n == k { k = 3; } return n + k; } fn g(n) { return h(n) * 10; } fn f(n) { return g(n) + 1; } var k = 2; print(f(1)); print(f(2));"
	for inline := range 3 {
		m, x := runStory(t, text, 4, api.How{Inline: inline}, 3)
		for !x.Waits() {
			m.Segment(x)
		}
		var l []string
		for _, v := range x.Calls() {
			l = append(l, fmt.Sprint(v.Fun, v.Slots, len(v.Stack)))
		}
		if got := strings.Join(l, ", "); got != "0 [] 1, 3 [4] 0, 2 [4] 0, 1 [4] 0" {
			t.Error(inline, got)
		}
		m.Resume(x, api.Nil)
		toTheEnd(t, m, x)
		if out(m) != "31 51" {
			t.Error(inline, out(m))
		}
		want := "made 0 of 3, entered 0 of 3, entered 0 of 3"
		if inline == 2 { // then k is counted on by f's code
			want += ", ended 0 of 3, left 0 of 3"
		}
		wantChanges(t, m, want)
		for f, heat := range []int{1, 2, 2, 2} {
			wantHeat(t, m, f, heat, api.OK)
		}
	}
}

// P17.4: as many calls as there may be, whether some are within others or not.
func TestDepth(t *testing.T) {
	for depth := 1; depth < 7; depth++ {
		for inline := range api.MaxInline + 1 {
			m := compiled(t, "fn a() { return b(); } fn b() { return c(); } fn c() { return d(); } fn d() { return 1; } a();", 30, depth)
			x := m.Main()
			goOn(t, m, x, 4)
			wantTier(t, m, 1, api.How{Inline: inline}, api.OK)
			for n := range 4 {
				s := m.Segment(x)
				if n+2 > depth {
					if s.Kind != api.StopDead || s.Fault != api.FaultDepth {
						t.Error(depth, inline, n, s)
					}
					wantHeat(t, m, n+1, 0, api.OK)
					break
				}
				if s.Kind != api.StopSafe || len(x.Calls()) != n+2 {
					t.Error(depth, inline, n, s, len(x.Calls()))
				}
				wantHeat(t, m, n+1, 1, api.OK)
			}
		}
	}
}

// P17.5: how often calls began, and went back, by whatever code.
func TestHeat(t *testing.T) {
	text := "fn f(n) { var i = 0; while i < n { i = i + 1; g(i); } return i; } fn g(n) { while n > 2 { n = n - 1; } } try { f(1); f(4); f(nil); f(); nil(); } catch e { } spawn f(3); { var j = 0; while j < 3 { j = j + 1; } }"
	for segment := range 20 {
		for _, how := range []api.How{{}, {Fold: 1}, {Guard: 1}, {Fold: 1, Inline: 1}, {Fold: 1, Guard: 1, Inline: 4}} {
			m := compiled(t, text, 30, 8)
			x := m.Main()
			goOn(t, m, x, segment)
			for f := range 3 {
				m.Tier(f, how)
			}
			toTheEnd(t, m, x)
			wantHeat(t, m, 0, 1+3, api.OK)
			wantHeat(t, m, 1, 3+1+4, api.OK)
			wantHeat(t, m, 2, 5+1+2, api.OK)
			f, _ := m.Global(0)
			y, _ := m.Spawn([]api.Value{f, tag.Int(3)})
			wantHeat(t, m, 1, 9, api.OK)
			toTheEnd(t, m, y)
			wantHeat(t, m, 1, 9+3, api.OK)
			wantHeat(t, m, 2, 8+3+1, api.OK)
			toTheEnd(t, m, m.Main())
			wantHeat(t, m, 0, 8, api.OK)
		}
	}
}

// Memory: what is handed in is not kept; answers are apart from the machine, and from each other.
func TestMemory(t *testing.T) {
	text := "fn g(n) { return [n, {x: n}]; } fn f(n) { return g(n + k); } var k = 1; yield(); print(f(2)); k = 2; print(f(2));"
	im := imageOfText(t, text)
	m := machineOf(t, im, 30, 9)
	for f := range im.Funs {
		clear(im.Funs[f].Code)
		im.Funs[f] = api.Code{}
	}
	clear(im.Strs)
	for _, keys := range im.Keys {
		clear(keys)
	}
	clear(im.Keys)
	x := m.Main()
	goOn(t, m, x, 4)
	wantTier(t, m, 2, api.How{Fold: 1, Inline: 1}, api.OK)
	on := m.On(0)
	if len(on) != 2 {
		t.Fatal(on)
	}
	_ = append(on[:1], api.Dep{Global: 7})
	clear(m.On(0))
	clear(m.Changes())
	for !x.Ended() {
		for _, v := range x.Calls() {
			clear(v.Slots)
			clear(v.Stack)
		}
		l := m.Changes()
		_ = append(l[:len(l)-1], api.Change{Kind: 9})
		goOn(t, m, x, 1)
	}
	if out(m) != "[3, {x: 3}] [4, {x: 4}]" {
		t.Error(out(m))
	}
	wantChanges(t, m, "made 0 of 2, entered 0 of 2, ended 0 of 2")
	f, _ := m.Global(0)
	wantOn(t, m, 0, api.Dep{Global: 0, Val: f}, api.Dep{Global: 2, Val: tag.Int(1)})
	if l := m.Changes(); !slices.Equal(l, m.Changes()) {
		t.Error(l)
	}
}

// P17.4: what calls are told to have is the caller's own.
func TestCallsAreApart(t *testing.T) {
	text := "fn f(a) { return fn (n) { yield(); a = a + n; return a; }; } var g = f(3); print(g(2)); print(g(2));"
	for guard := range 2 {
		m, x := runStory(t, text, 4, api.How{Guard: guard}, 2)
		for range 2 {
			for !x.Waits() {
				m.Segment(x)
			}
			for range 3 {
				c := x.Calls()[1]
				if c.Fun != 2 || len(c.Slots) != 1 || len(c.Cells) != 1 || m.Heap().Kind(c.Cells[0]) != api.ObjCell {
					t.Fatal(c)
				}
				for _, l := range [][]api.Value{c.Slots, c.Stack, c.Cells} {
					clear(l)
					_ = append(l[:0], 13)
				}
			}
			m.Resume(x, api.Nil)
		}
		toTheEnd(t, m, x)
		if out(m) != "5 7" {
			t.Error(out(m))
		}
		wantChanges(t, m, "made 0 of 2, entered 0 of 2, entered 0 of 2")
	}
}

// P17.4: stops' arguments are the caller's own.
func TestStopsAreApart(t *testing.T) {
	m, x := runStory(t, "fn f(n) { n = n + 1; sleep(n); return n; } print(f(1));", 1, api.How{Fold: 1}, 1)
	m.Segment(x)
	for range 3 {
		s := m.Segment(x)
		if s.Kind != api.StopPrim || !slices.Equal(s.Args, []api.Value{tag.Int(2)}) {
			t.Fatal(s)
		}
		clear(s.Args)
		_ = append(s.Args[:0], 13)
	}
	m.Resume(x, api.Nil)
	toTheEnd(t, m, x)
	if out(m) != "2" {
		t.Error(out(m))
	}
}
