package base

import (
	"fmt"
	"slices"
	"testing"

	"jacquard/api"
	"jacquard/heap"
	"jacquard/tag"
)

// mustMake tells what is made, which it must be.
func mustMake(t *testing.T) func(v api.Value, e api.Errno) api.Value {
	return func(v api.Value, e api.Errno) api.Value {
		t.Helper()
		if e != api.OK {
			t.Fatal(e)
		}
		return v
	}
}

// plainViews tells views without telling nil and empty lists apart.
func plainViews(l []api.View) string { return fmt.Sprintf("%v", l) }

// P13.2
func TestFirstThread(t *testing.T) {
	im := imageOf(fun(0, 2, "int 7; store 1; atom 2; storeglobal 0; atom 0; return"))
	m := machineOf(t, im, 9, 1)
	x := m.Main()
	if x.Waits() || x.Ended() {
		t.Error("it has not begun")
	}
	if got := plainViews(x.Calls()); got != "[{0 0 [1 1] [] []}]" {
		t.Error(got)
	}
	m.Segment(x)
	if got := plainViews(x.Calls()); got != "[{0 4 [1 28] [] []}]" {
		t.Error(got)
	}
	y := m.Main() // another one, from the beginning
	if got := plainViews(y.Calls()); y == x || got != "[{0 0 [1 1] [] []}]" {
		t.Error(got)
	}
	if got := plainViews(x.Calls()); got != "[{0 4 [1 28] [] []}]" {
		t.Error(got)
	}
}

// spawning is a machine whose function 1 takes two values and boxes both, 2 takes none, 3 takes two and has a Cap.
func spawning(t *testing.T, most, depth int) *Machine {
	im := imageOf(
		fun(0, 0, "atom 0; return"),
		fun(2, 3, "loadcell 0; loadcell 1; bin 1; return"),
		fun(0, 0, "int 2; return"),
		fun(2, 2, "loadcap 0; load 1; list 2; return"),
	)
	im.Funs[1].Boxes = []int{0, 1}
	im.Funs[3].Caps = []api.Cap{{Own: 1, N: 0}}
	im.Funs[0].Slots = 1
	return machineOf(t, im, most, depth)
}

// P13.2
func TestSpawn(t *testing.T) {
	m := spawning(t, 20, 1)
	h, must := m.Heap(), mustMake(t)
	f0, f1, f2 := must(h.Fun(0, nil)), must(h.Fun(1, nil)), must(h.Fun(2, nil))
	cell := must(h.Cell(tag.Int(6)))
	f3 := must(h.Fun(3, []api.Value{cell}))
	count := h.Count()
	for _, c := range []struct {
		l     []api.Value
		views string
		want  string
	}{
		{[]api.Value{f2}, "[{2 0 [] [] []}]", "done 2"},
		{[]api.Value{f0}, "[{0 0 [1] [] []}]", "done nil"},
		{[]api.Value{f3, tag.Int(1), tag.Int(2)}, fmt.Sprintf("[{3 0 [4 8] [] [%d]}]", cell), "done [6, 2]"},
		{[]api.Value{f1, tag.Int(9), tag.Int(4)}, fmt.Sprintf("[{1 0 [%d %d 1] [] []}]", 4*(count+1)+2, 4*(count+2)+2), "done 5"},
	} {
		x, f := m.Spawn(c.l)
		if f != 0 || x == nil || x.Waits() || x.Ended() {
			t.Fatal(c.l, x, f)
		}
		if got := plainViews(x.Calls()); got != c.views {
			t.Errorf("%v: %s, not %s", c.l, got, c.views)
		}
		clear(c.l) // what was handed in is not kept
		if got := story(m, x); got != c.want {
			t.Errorf("%s, not %s", got, c.want)
		}
	}
	if got := allObjects(h); got != "fn:0 fn:1 fn:2 &6 fn:3 [6, 2] &9 &4" {
		t.Error(got)
	}
}

// P13.2: the faults, the first one first; nothing is made.
func TestSpawnFaults(t *testing.T) {
	m := spawning(t, 30, 3)
	h, must := m.Heap(), mustMake(t)
	f1, f2, f3 := must(h.Fun(1, nil)), must(h.Fun(2, nil)), must(h.Fun(3, nil))
	z := must(h.Cplx(0, 0))
	beyond := must(tag.Ref(29))
	n := tag.Int(1)
	for _, v := range []api.Value{
		api.Nil, api.False, api.True, n, tag.Int(0), must(tag.Prim(api.PrimPrint)), must(tag.Prim(api.PrimYield)), must(tag.Prim(api.MaxRef)),
		must(h.Str([]byte("f"))), must(h.Arr([]api.Value{f2})), must(h.Rec([]string{"f"}, []api.Value{f2})), must(h.Cell(f2)), z,
		must(h.Item(api.ObjThr, 2)), must(h.Item(api.ObjMon, 2)), must(h.Item(api.ObjBox, 2)),
		must(h.Fun(4, nil)), must(h.Fun(api.MaxInt, nil)), beyond, 13, ^api.Value(0),
	} {
		for _, args := range [][]api.Value{nil, {n}, {n, n}} {
			if x, f := m.Spawn(append([]api.Value{v}, args...)); x != nil || f != api.FaultCall {
				t.Errorf("%s with %d: %d", look(h, v), len(args), f)
			}
		}
	}
	if x, f := m.Spawn(nil); x != nil || f != api.FaultCall {
		t.Error(x, f)
	}
	if x, f := m.Spawn([]api.Value{}); x != nil || f != api.FaultCall {
		t.Error(x, f)
	}
	count := h.Count()
	for _, l := range [][]api.Value{{f1}, {f1, n}, {f1, n, n, n}, {f2, n}, {f2, f2}, {f3}, {f3, n}, slices.Repeat([]api.Value{f3}, 300)} {
		if x, f := m.Spawn(l); x != nil || f != api.FaultArgs {
			t.Errorf("%v: %d", l, f)
		}
	}
	if h.Count() != count {
		t.Error("something was made")
	}
}

// P13.2: a heap that is full: what was made ahead stays; FaultCall and FaultArgs stand ahead of it.
func TestSpawnWithoutRoom(t *testing.T) {
	n := tag.Int(3)
	for room := range 3 {
		m := spawning(t, 2+room, 1)
		h, must := m.Heap(), mustMake(t)
		f1, f2 := must(h.Fun(1, nil)), must(h.Fun(2, nil))
		x, f := m.Spawn([]api.Value{f1, n, n})
		if room < 2 && (x != nil || f != api.FaultHeap) || room == 2 && f != 0 {
			t.Errorf("room for %d: %d", room, f)
		}
		if h.Count() != 2+room {
			t.Errorf("room for %d: %s", room, allObjects(h))
		}
		if x, f := m.Spawn([]api.Value{f1, n, n}); x != nil || f != api.FaultHeap {
			t.Error(f)
		}
		if x, f := m.Spawn([]api.Value{f1, n}); x != nil || f != api.FaultArgs {
			t.Error(f)
		}
		if x, f := m.Spawn([]api.Value{n, n}); x != nil || f != api.FaultCall {
			t.Error(f)
		}
		if y, f := m.Spawn([]api.Value{f2}); y == nil || f != 0 {
			t.Error(f)
		}
	}
}

// P13.2: threads are apart, but for what all share.
func TestThreadsAreApart(t *testing.T) {
	m := compiled(t, "var k = 0; fn f(a) { k = k + a; var b = a; yield(); k = k + b; return b; } spawn f(1); spawn f(10);", 20, 3)
	x := m.Main()
	var others []*Thread
	for !x.Ended() {
		s := m.Segment(x)
		if s.Kind != api.StopSpawn {
			continue
		}
		y, f := m.Spawn(s.Args)
		if f != 0 {
			t.Fatal(f)
		}
		others = append(others, y)
		m.Resume(x, api.Nil)
	}
	steps := func(y *Thread, want string) {
		t.Helper()
		if got := told(m.Heap(), m.Segment(y)); got != want {
			t.Errorf("%s, not %s", got, want)
		}
	}
	steps(others[0], "safe")
	steps(others[1], "safe")
	steps(others[1], "yield()")
	steps(others[0], "yield()")
	m.Resume(others[0], api.Nil)
	if !others[1].Waits() || others[0].Waits() {
		t.Error("who waits?")
	}
	steps(others[0], "safe")
	steps(others[0], "done 1")
	steps(others[1], "yield()")
	m.Resume(others[1], api.Nil)
	steps(others[1], "safe")
	steps(others[1], "done 10")
	if v, _ := m.Global(0); v != tag.Int(22) {
		t.Error(look(m.Heap(), v))
	}
}

// P13.5
func TestGlobal(t *testing.T) {
	m := compiled(t, "var x = 1; var y = \"s\"; x = [x];", 9, 9)
	story(m, m.Main())
	for i, want := range []string{"[1]", `"s"`} {
		if v, e := m.Global(i); e != api.OK || look(m.Heap(), v) != want {
			t.Error(i, v, e)
		}
	}
	for _, i := range []int{api.MinInt, -1, 2, 3, api.MaxGlobals, api.MaxInt} {
		if v, e := m.Global(i); v != 0 || e != api.ErrArg {
			t.Error(i, v, e)
		}
	}
	m = compiled(t, "", 1, 1)
	if v, e := m.Global(0); v != 0 || e != api.ErrArg {
		t.Error(v, e)
	}
}

// P13.5: in order, whichever thread puts out.
func TestOut(t *testing.T) {
	m := compiled(t, "fn f(n) { print(n); yield(); print([n]); throw n; } f(rand(0));", 9, 9)
	x, y := m.Main(), m.Main()
	for _, z := range []*Thread{x, y} {
		for m.Segment(z).Kind != api.StopPrim {
		}
	}
	m.Resume(y, tag.Int(2))
	for m.Segment(y).Kind == api.StopSafe {
	}
	m.Resume(x, tag.Int(1))
	for m.Segment(x).Kind == api.StopSafe {
	}
	m.Resume(x, api.Nil)
	m.Segment(x)
	m.Resume(y, api.Nil)
	m.Segment(y)
	want := "2 1 [1] [2]"
	if got := fmt.Sprintf("%s", m.Out()); got != "["+want+"]" {
		t.Error(got)
	}
	for _, text := range m.Out() { // what is told is new memory, spare room too
		text = text[:cap(text)]
		for i := range text {
			text[i] = '?'
		}
	}
	out := m.Out()
	_ = append(out, []byte("more"))
	clear(out)
	if got := fmt.Sprintf("%s", m.Out()); got != "["+want+"]" {
		t.Error(got)
	}
}

// P13.5
func TestCalls(t *testing.T) {
	im := imageOf(
		fun(0, 2, "int 1; store 0; box 0; atom 2; fun 1; int 2; call 1; pop; return"),
		fun(1, 2, "int 4; loadcap 0; fun 2; call 0; bin 0; bin 0; return"),
		fun(0, 0, "loadcap 0; prim 17; int 5; call 1; bin 0; return"),
	)
	im.Funs[1].Boxes = []int{0}
	im.Funs[1].Caps = []api.Cap{{Own: 1, N: 0}}
	im.Funs[2].Caps = []api.Cap{{Own: 0, N: 0}, {Own: 1, N: 0}}
	m := machineOf(t, im, 10, 3)
	x := m.Main()
	// Objects: the cell 2, function 1: 6, the boxed parameter 10, function 2: 14.
	first := "{0 7 [2 1] [9] []}"
	second := "{1 4 [10 1] [16 4] [2]}"
	for _, c := range []struct{ stop, views string }{
		{"safe", "[" + first + " {1 0 [10 1] [] [2]}]"},
		{"safe", "[" + first + " " + second + " {2 0 [] [] [2 10]}]"},
		{"rand(5)", "[" + first + " " + second + " {2 4 [] [4] [2 10]}]"},
		{"rand(5)", "[" + first + " " + second + " {2 4 [] [4] [2 10]}]"},
		{"", "[" + first + " " + second + " {2 4 [] [4 28] [2 10]}]"},
		{"safe", "[" + first + " {1 4 [10 1] [16 4 32] [2]}]"},
		{"safe", "[{0 7 [2 1] [9 52] []}]"},
		{"done true", "[]"},
		{"done true", "[]"},
	} {
		if c.stop == "" {
			m.Resume(x, tag.Int(7))
		} else if got := told(m.Heap(), m.Segment(x)); got != c.stop {
			t.Errorf("%s, not %s", got, c.stop)
		}
		if got := plainViews(x.Calls()); got != c.views {
			t.Errorf("%s: %s, not %s", c.stop, got, c.views)
		}
	}
}

// P13.5, Memory: what Calls tells is new memory, spare room too.
func TestCallsAreCopies(t *testing.T) {
	m := compiled(t, "fn f(a) { return fn (b) { return [1, b, a, yield(), b]; }; } print([0, f(3)(2)]);", 20, 5)
	x := m.Main()
	for m.Segment(x).Kind != api.StopPrim {
	}
	want := plainViews(x.Calls())
	for _, v := range x.Calls() {
		for _, l := range [][]api.Value{v.Slots, v.Stack, v.Cells} {
			l = l[:cap(l)]
			for i := range l {
				l[i] = 13
			}
		}
	}
	got := x.Calls()
	if plainViews(got) != want || len(got) != 2 || len(got[1].Slots) != 1 || len(got[1].Cells) != 1 || len(got[1].Stack) != 3 {
		t.Error(got, want)
	}
	m.Resume(x, tag.Int(4))
	if got := story(m, x); got != "safe | [0, [1, 2, 3, 4, 2]] done nil" {
		t.Error(got)
	}
}

// P13.2: words that are no values, which no promise keeps from a call: it ends.
func TestSpawnWithAnyWord(t *testing.T) {
	texts := []string{"load 0; list 1; return", "load 0; storeglobal 0; loadglobal 0; return", "box 0; load 0; return", "load 0; rec 1; return",
		"prim 0; load 0; call 1; return", "load 0; throw", "load 0; call 0; return", "load 0; spawn 0; return", "fun 1; return", "loadcell 0; return"}
	for _, text := range texts {
		im := imageOf(fun(0, 0, "atom 0; return"), fun(1, 1, text))
		for _, word := range []api.Value{13, 2, 4*99 + 2, ^api.Value(0), 1<<33 + 2} {
			for _, boxes := range [][]int{nil, {0}} {
				im.Funs[1].Boxes = boxes
				m := machineOf(t, im, 5, 3)
				f := mustMake(t)(m.Heap().Fun(1, nil))
				if x, fault := m.Spawn([]api.Value{f, word}); fault == 0 {
					story(m, x)
				}
			}
		}
	}
}

// P13.2, P10.1: functions that were made by whoever has the heap: an own cell that is missing, or is of another kind, is no cell.
func TestFunctionsMadeElsewhere(t *testing.T) {
	im := imageOf(
		fun(0, 0, "atom 0; return"),
		fun(0, 0, "loadcap 0; return"),
		fun(0, 0, "int 1; storecap 1; loadcap 1; return"),
		fun(0, 0, "fun 1; call 0; return"),
	)
	im.Funs[0].Slots = 1
	im.Funs[1].Caps = []api.Cap{{Own: 0, N: 0}}
	im.Funs[2].Caps = []api.Cap{{Own: 0, N: 0}, {Own: 0, N: 0}}
	im.Funs[3].Caps = []api.Cap{{Own: 1, N: 0}}
	for f := 1; f < 4; f++ {
		for _, c := range []struct {
			cells func(h *heap.Heap) []api.Value
			want  [4]string
		}{
			{func(*heap.Heap) []api.Value { return nil }, [4]string{"", `thrown "type"`, `thrown "type"`, `safe | thrown "type"`}},
			{func(*heap.Heap) []api.Value { return []api.Value{api.Nil, api.Nil} }, [4]string{"", `thrown "type"`, `thrown "type"`, `safe | thrown "type"`}},
			{func(h *heap.Heap) []api.Value {
				v, _ := h.Arr([]api.Value{api.Nil})
				return []api.Value{v, v}
			}, [4]string{"", `thrown "type"`, `thrown "type"`, `safe | thrown "type"`}},
			{func(h *heap.Heap) []api.Value {
				v, _ := h.Cell(tag.Int(3))
				return []api.Value{v, v, v}
			}, [4]string{"", "done 3", "done 1", "safe | safe | done 3"}},
		} {
			m := machineOf(t, im, 9, 2)
			v := mustMake(t)(m.Heap().Fun(f, c.cells(m.Heap())))
			x, fault := m.Spawn([]api.Value{v})
			if fault != 0 {
				t.Fatal(fault)
			}
			if got := story(m, x); got != c.want[f] {
				t.Errorf("function %d: %s, not %s", f, got, c.want[f])
			}
		}
	}
}
