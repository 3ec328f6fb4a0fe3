package base

import (
	"fmt"
	"reflect"
	"slices"
	"strings"
	"testing"

	"jacquard/api"
	"jacquard/tag"
)

// event is something that whoever oversees a machine is told.
type event struct {
	what    string
	fun, at int
	a, b    api.Value
}

// witness keeps what it is told, and has faster code for some functions.
type witness struct {
	told []event
	fast map[int]func(*hare) api.Stop
	left int
	ends bool // what the faster code counts on holds no longer
}

func (w *witness) Began(f int)  { w.told = append(w.told, event{what: "began", fun: f}) }
func (w *witness) Looped(f int) { w.told = append(w.told, event{what: "looped", fun: f}) }
func (w *witness) Had(f, at int, a, b api.Value) {
	w.told = append(w.told, event{what: "had", fun: f, at: at, a: a, b: b})
}
func (w *witness) Wrote(g int, v api.Value) {
	w.told = append(w.told, event{what: "wrote", at: g, a: v})
}

func (w *witness) Version(f int) Version {
	if w.fast[f] == nil {
		return nil
	}
	return hareOf{w, f}
}

type hareOf struct {
	*witness
	fun int
}

func (h hareOf) Begin(s *Seat, slots []api.Value) Faster {
	return &hare{Seat: s, witness: h.witness, goOn: h.fast[h.fun], views: []api.View{{Fun: h.fun, Slots: slots}}}
}

// hare is a call that does what a test says.
type hare struct {
	*Seat
	*witness
	goOn  func(*hare) api.Stop
	views []api.View
	taken []api.Value
	turns int
}

func (h *hare) GoOn() api.Stop {
	h.turns++
	return h.goOn(h)
}

func (h *hare) Take(v api.Value) {
	h.taken = append(h.taken, v)
	inner := &h.views[len(h.views)-1]
	inner.Stack = append(inner.Stack, v)
}

func (h *hare) Holds() bool { return !h.ends }
func (h *hare) Left()       { h.left++ }

func (h *hare) Views() []api.View {
	var l []api.View
	for _, v := range h.views {
		v.Slots, v.Stack = slices.Clone(v.Slots), slices.Clone(v.Stack)
		l = append(l, v)
	}
	return l
}

// underWitness is a machine in which function 1, with one parameter, runs by what a test says; function 0 calls it with 5, and returns what that returns, or, as a list, what it throws.
func underWitness(t *testing.T, depth int, goOn func(*hare) api.Stop) (*witness, *Machine, *Thread) {
	t.Helper()
	im := imageOf(
		fun(0, 1, "fun 1; int 5; call 1; return; list 1; return"),
		fun(1, 2, "prim 14; call 0; pop; loop 0; pop; int 8; return"),
		fun(0, 0, "int 3; throw"),
		fun(0, 1, "int 3; return"),
	)
	im.Funs[0].Tries = []api.Try{{From: 0, To: 3, Target: 4}}
	w := &witness{fast: map[int]func(*hare) api.Stop{1: goOn}}
	m, e := NewUnder(im, 50, depth, w)
	if e != api.OK {
		t.Fatal(e)
	}
	return w, m, m.Main()
}

// wantSegments: what stops come, and how many calls there are at each.
func wantSegments(t *testing.T, m *Machine, x *Thread, want string) {
	t.Helper()
	var l []string
	for range 20 {
		s := m.Segment(x)
		l = append(l, fmt.Sprint(told(m.Heap(), s), " ", len(x.Calls())))
		if s.Kind >= api.StopDone {
			break
		}
		if x.Waits() {
			m.Resume(x, tag.Int(7))
		}
	}
	if got := strings.Join(l, " | "); got != want {
		t.Errorf("%s, not %s", got, want)
	}
}

// Layer 17: a call by faster code returns, throws, faults, calls, waits, as an ordinary one.
func TestFasterCalls(t *testing.T) {
	callAll := func(h *hare, f int) api.Stop {
		v, _ := h.Do(api.Instr{Op: api.OpFun, A: f}, nil)
		return h.Call([]api.Value{v})
	}
	for _, c := range []struct {
		goOn func(h *hare) api.Stop
		want string
		left int
	}{
		{func(h *hare) api.Stop { return h.Return(h.views[0].Slots[0]) }, "safe 2 | safe 1 | done 5 0", 0},
		{func(h *hare) api.Stop { return h.Throw(api.True) }, "safe 2 | done [true] 0", 1},
		{func(h *hare) api.Stop { return h.Fault(api.FaultZero) }, `safe 2 | done ["zero"] 0`, 1},
		{func(h *hare) api.Stop { return h.Fault(api.FaultHeap) }, "safe 2 | dead heap 0", 0},
		{func(h *hare) api.Stop { return h.Call([]api.Value{api.Nil}) }, `safe 2 | done ["call"] 0`, 1},
		{func(h *hare) api.Stop { return h.Spawn([]api.Value{api.Nil}) }, `safe 2 | done ["call"] 0`, 1},
		{func(h *hare) api.Stop { return h.CallPrim(api.PrimLen, nil) }, `safe 2 | done ["args"] 0`, 1},
		{func(h *hare) api.Stop {
			if h.turns > 1 {
				return h.Return(h.taken[0])
			}
			return h.CallPrim(api.PrimRand, []api.Value{tag.Int(2)})
		}, "safe 2 | rand(2) 2 | safe 1 | done 7 0", 0},
		{func(h *hare) api.Stop {
			if h.turns > 1 {
				return h.Return(h.taken[0])
			}
			return h.CallPrim(api.PrimText, []api.Value{tag.Int(2)})
		}, `safe 2 | safe 1 | done "2" 0`, 0},
		{func(h *hare) api.Stop {
			if h.turns > 1 {
				return h.Return(h.taken[0])
			}
			return callAll(h, 3)
		}, "safe 2 | safe 3 | safe 2 | safe 1 | done 3 0", 0},
		{func(h *hare) api.Stop { return callAll(h, 2) }, "safe 2 | safe 3 | done [3] 0", 1},
		{func(h *hare) api.Stop {
			if h.turns > 1 {
				return h.Return(h.Global(1))
			}
			h.SetGlobal(1, tag.Int(6))
			return safe()
		}, "safe 2 | safe 2 | safe 1 | done 6 0", 0},
	} {
		w, m, x := underWitness(t, 5, c.goOn)
		wantSegments(t, m, x, c.want)
		if w.left != c.left {
			t.Error(c.want, w.left)
		}
	}
}

// Layer 17: calls within count as calls, and stand as such.
func TestCallsWithin(t *testing.T) {
	for depth := 2; depth < 6; depth++ {
		goOn := func(h *hare) api.Stop {
			switch h.turns {
			case 1, 2, 3:
				h.views = append(h.views, api.View{Fun: 3, Slots: []api.Value{tag.Int(h.turns)}})
				if fault := h.BeginWithin(3); fault != api.FaultNone {
					return h.Fault(fault)
				}
				return safe()
			case 4:
				h.EndWithin()
				h.views = h.views[:3]
				return safe()
			case 5: // there is room for one more again
				v, _ := h.Do(api.Instr{Op: api.OpFun, A: 3}, nil)
				return h.Call([]api.Value{v})
			case 6:
				h.views[0].At, h.views[1].At, h.views[2].At = 4, 1, 1
				h.ends = true
			}
			return api.Stop{}
		}
		w, m, x := underWitness(t, depth, goOn)
		segments := []string{"safe 2", "safe 3", "safe 4", "safe 5", "safe 4", "safe 5", "safe 4", "safe 3", "safe 2", "safe 1", "done 8 0"}
		if depth < 5 {
			segments = append(segments[:depth-1:depth-1], "dead depth 0")
		}
		wantSegments(t, m, x, strings.Join(segments, " | "))
		if w.left != depth/5 {
			t.Error(depth, w.left)
		}
		began := slices.DeleteFunc(w.told, func(e event) bool { return e.what != "began" || e.fun != 3 })
		if len(began) != []int{0, 1, 2, 4}[depth-2] {
			t.Error(depth, began)
		}
	}
}

// Layer 17: a faster call that holds no longer goes on as ordinary ones, just where it stands: when it goes on, or is returned into; not when it is handed something.
func TestUnfold(t *testing.T) {
	asked := func(h *hare) api.Stop {
		h.views[0].At = 2
		return h.CallPrim(api.PrimRand, []api.Value{tag.Int(2)})
	}
	w, m, x := underWitness(t, 5, asked)
	m.Segment(x)
	m.Segment(x)
	w.ends = true
	if s := m.Segment(x); s.Prim != api.PrimRand || w.left != 0 {
		t.Error(s, w.left)
	}
	before := x.Calls()
	if m.Resume(x, tag.Int(4)); w.left != 0 {
		t.Error("left when it was handed something")
	}
	before[1].Stack = append(before[1].Stack, 16)
	if l := x.Calls(); plainViews(l) != plainViews(before) {
		t.Error(l, before)
	}
	if s := m.Segment(x); s.Kind != api.StopSafe || w.left != 1 {
		t.Error(s, w.left)
	}
	calls := x.Calls()
	if len(calls) != 2 || calls[1].At != 0 || len(calls[1].Stack) != 0 || !slices.Equal(calls[1].Slots, []api.Value{20, api.Nil}) {
		t.Error(calls)
	}

	called := func(h *hare) api.Stop {
		h.views[0].At = 4
		v, _ := h.Do(api.Instr{Op: api.OpFun, A: 3}, nil)
		return h.Call([]api.Value{v})
	}
	w, m, x = underWitness(t, 5, called)
	m.Segment(x)
	m.Segment(x)
	w.ends = true
	if len(x.Calls()) != 3 || w.left != 0 {
		t.Error(x.Calls())
	}
	if s := m.Segment(x); s.Kind != api.StopSafe || w.left != 1 || !slices.Equal(x.Calls()[1].Stack, []api.Value{12}) {
		t.Error(s, w.left, x.Calls())
	}
	wantSegments(t, m, x, "safe 1 | done 8 0")
}

// Layer 17: a machine tells its image, in new memory.
func TestImage(t *testing.T) {
	im := imageOf(
		fun(0, 1, "int 1; return"),
		api.Code{Params: 1, Slots: 2, Boxes: []int{0}, Caps: []api.Cap{{Own: 1, N: 0}}, Code: ops("int 1; return"), Tries: []api.Try{{From: 0, To: 1, Target: 1}}},
	)
	m := machineOf(t, im, 5, 5)
	got := m.Image()
	if !reflect.DeepEqual(got, im) {
		t.Errorf("%+v", got)
	}
	spoil(got)
	if got := m.Image(); !reflect.DeepEqual(got, im) {
		t.Errorf("%+v", got)
	}
	var none *Machine
	if got := none.Image(); len(got.Funs) != 0 {
		t.Error(got)
	}
}
