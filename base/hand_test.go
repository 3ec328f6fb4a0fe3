package base

import (
	"testing"

	"jacquard/api"
	"jacquard/prim"
	"jacquard/tag"
)

// waiting is a machine, and a thread of it that waits.
func waiting(t *testing.T, text string, most int) (*Machine, *Thread) {
	t.Helper()
	m := compiled(t, text, most, 5)
	x := m.Main()
	for !x.Waits() {
		if m.Segment(x); x.Ended() {
			t.Fatal(text, "ended")
		}
	}
	return m, x
}

// P13.4: ErrTime, then ErrArg; nothing is changed.
func TestResumeErrors(t *testing.T) {
	m := compiled(t, "var s = \"a\"; print(yield());", 3, 5)
	x := m.Main()
	bad := []api.Value{13, 4*1 + 2, 4*api.MaxRef + 2, 1<<34 + 2, 1<<34 + 3, ^api.Value(0)}
	for range 2 { // ahead of its first segment, and behind
		for _, v := range append([]api.Value{api.Nil}, bad...) {
			if e := m.Resume(x, v); e != api.ErrTime {
				t.Errorf("%d: %d", v, e)
			}
		}
		m.Segment(x)
	}
	if !x.Waits() {
		t.Fatal("it does not wait")
	}
	calls := plainViews(x.Calls())
	for _, v := range bad {
		if e := m.Resume(x, v); e != api.ErrArg || !x.Waits() || plainViews(x.Calls()) != calls {
			t.Errorf("%d: %d", v, e)
		}
	}
	if e := m.Resume(x, 2); e != api.OK || x.Waits() {
		t.Error(e)
	}
	if e := m.Resume(x, api.Nil); e != api.ErrTime {
		t.Error(e)
	}
	if got := story(m, x); got != `"a" done nil` {
		t.Error(got)
	}
	for _, v := range append([]api.Value{api.Nil}, bad...) { // ended
		if e := m.Resume(x, v); e != api.ErrTime {
			t.Errorf("%d: %d", v, e)
		}
	}
}

// P13.4: what is handed is what the call, or the spawn, comes to.
func TestResume(t *testing.T) {
	for _, text := range []string{"fn f() { } print([1, rand(0), 2]);", "fn f() { } print([1, spawn f(), 2]);"} {
		m, x := waiting(t, text, 9)
		before := x.Calls()
		if e := m.Resume(x, tag.Int(8)); e != api.OK || x.Waits() || x.Ended() {
			t.Error(e)
		}
		after := x.Calls()
		stack := append(before[0].Stack, tag.Int(8))
		before[0].Stack = stack
		if plainViews(after) != plainViews(before) {
			t.Error(after, before)
		}
		if got := story(m, x); got != "[1, 8, 2] done nil" {
			t.Error(got)
		}
	}
}

// P13.4: ErrTime, then ErrArg; nothing is changed.
func TestFaultErrors(t *testing.T) {
	m := compiled(t, "var s = \"a\"; print(yield());", 3, 5)
	x := m.Main()
	none := []int{api.MinInt, -1, 0, 9, 10, 99, 103, 104, 1000, api.MaxInt}
	refused := func(f int, want api.Errno) {
		t.Helper()
		if s, e := m.Fault(x, f); e != want || !sameStop(s, api.Stop{}) {
			t.Errorf("%d: %v, %d", f, s, e)
		}
	}
	for range 2 {
		for _, f := range append(none, api.FaultType, api.FaultHeap) {
			refused(f, api.ErrTime)
		}
		m.Segment(x)
	}
	calls := plainViews(x.Calls())
	for _, f := range none {
		refused(f, api.ErrArg)
		if !x.Waits() || plainViews(x.Calls()) != calls {
			t.Error(f)
		}
	}
	if m.Heap().Count() != 1 {
		t.Error(allObjects(m.Heap()))
	}
	m.Resume(x, api.Nil)
	refused(api.FaultType, api.ErrTime)
	m.Segment(x)
	refused(api.FaultType, api.ErrTime)
	refused(api.FaultDepth, api.ErrTime)
	refused(0, api.ErrTime)
}

// P13.4: each fault, where it is caught and where it is not.
func TestFault(t *testing.T) {
	for f := range 110 {
		text := prim.FaultText(f)
		if text == "" {
			continue
		}
		for _, wait := range []string{"yield()", "spawn f()"} {
			m, x := waiting(t, "fn f() { } fn g() { "+wait+"; print(0); } try { g(); } catch e { print(e); } print(1);", 9)
			before := m.Heap().Count()
			s, e := m.Fault(x, f)
			want, ends := "goes on", false
			if f >= 100 {
				want, ends = "dead "+text, true
			}
			if got := told(m.Heap(), s); e != api.OK || got != want || x.Waits() || x.Ended() != ends {
				t.Errorf("%s of %s: %s, %d", text, wait, got, e)
			}
			if ends {
				if got := told(m.Heap(), m.Segment(x)); got != want || len(x.Calls()) != 0 || m.Heap().Count() != before {
					t.Error(got)
				}
				continue
			}
			if len(x.Calls()) != 1 || m.Heap().Count() != before+1 {
				t.Error(x.Calls())
			}
			if got := story(m, x); got != `"`+text+`" 1 done nil` {
				t.Error(got)
			}
		}
		m, x := waiting(t, "fn g() { yield(); } g();", 9)
		s, e := m.Fault(x, f)
		want := `thrown "` + text + `"`
		if f >= 100 {
			want = "dead " + text
		}
		if got := told(m.Heap(), s); e != api.OK || got != want || x.Waits() || !x.Ended() || len(x.Calls()) != 0 {
			t.Errorf("%s: %s, %d", text, got, e)
		}
		if again := m.Segment(x); !sameStop(again, s) {
			t.Error(again, s)
		}
		if _, e := m.Fault(x, f); e != api.ErrTime {
			t.Error(e)
		}
	}
}

// P13.4: a fault that is to be thrown, and no room for its text.
func TestFaultWithoutRoom(t *testing.T) {
	m, x := waiting(t, "try { []; yield(); } catch e { }", 1)
	s, e := m.Fault(x, api.FaultState)
	if got := told(m.Heap(), s); e != api.OK || got != "dead heap" || !x.Ended() || x.Waits() {
		t.Error(got, e)
	}
}

// P13.4: what is thrown where the thread waits is caught by the Try that has the call, not by one behind it.
func TestFaultPlace(t *testing.T) {
	for _, c := range []struct {
		try  api.Try
		want string
	}{
		{api.Try{From: 1, To: 2, Target: 5}, "goes on"}, {api.Try{From: 0, To: 1, Target: 5}, `thrown "type"`}, {api.Try{From: 2, To: 3, Target: 5}, `thrown "type"`},
	} {
		im := imageOf(fun(0, 0, "prim 14; call 0; pop; atom 0; return; return"))
		im.Funs[0].Tries = []api.Try{c.try}
		m := machineOf(t, im, 9, 9)
		x := m.Main()
		m.Segment(x)
		s, e := m.Fault(x, api.FaultType)
		if got := told(m.Heap(), s); e != api.OK || got != c.want {
			t.Error(c.try, got, e)
		}
		if got := plainViews(x.Calls()); c.want == "goes on" && got != "[{0 5 [] [2] []}]" {
			t.Error(got)
		}
	}
}
