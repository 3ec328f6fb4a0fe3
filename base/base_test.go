package base

import (
	"fmt"
	"slices"
	"strconv"
	"strings"
	"testing"

	"jacquard/api"
	"jacquard/code"
	"jacquard/gen"
	"jacquard/heap"
	"jacquard/parse"
	"jacquard/prim"
	"jacquard/scope"
	"jacquard/show"
	"jacquard/tag"
	"jacquard/verify"
)

// ops reads instructions: "int 1; return".
func ops(text string) []api.Instr {
	numbers := map[string]int{}
	for op := range api.Ops {
		numbers[code.Name(op)] = op
	}
	var l []api.Instr
	for _, word := range strings.Split(text, ";") {
		f := strings.Fields(word)
		op, is := numbers[f[0]]
		if !is {
			panic(word)
		}
		i := api.Instr{Op: op}
		if len(f) > 1 {
			n, err := strconv.Atoi(f[1])
			if err != nil {
				panic(err)
			}
			i.A = n
		}
		l = append(l, i)
	}
	return l
}

// fun is a function with these instructions.
func fun(params, slots int, text string) api.Code {
	return api.Code{Params: params, Slots: slots, Code: ops(text)}
}

// imageOf has some texts, two globals and these functions.
func imageOf(funs ...api.Code) api.Image {
	return api.Image{Funs: funs, Strs: []string{"a", "b", "c"}, Keys: [][]int{{}, {1}, {2, 0}}, Globals: 2}
}

func machineOf(t *testing.T, im api.Image, most, depth int) *Machine {
	t.Helper()
	m, e := New(im, most, depth)
	if e != api.OK || m == nil {
		f, at, _ := verify.Check(im)
		t.Fatalf("%.500s: %d (function %d at %d)", fmt.Sprintf("%+v", im), e, f, at)
	}
	return m
}

// compiled is the machine of a program.
func compiled(t *testing.T, text string, most, depth int) *Machine {
	t.Helper()
	l, e, at := parse.Parse([]byte(text))
	if e != api.OK {
		t.Fatalf("%s: %d at %d", text, e, at)
	}
	im, e, at := gen.Compile(l)
	if e != api.OK {
		t.Fatalf("%s: %d at %d", text, e, at)
	}
	return machineOf(t, im, most, depth)
}

func look(h *heap.Heap, v api.Value) string {
	text, e := show.Text(h, v)
	if e != api.OK {
		return "long"
	}
	return string(text)
}

func lookAll(h *heap.Heap, l []api.Value) string {
	var texts []string
	for _, v := range l {
		texts = append(texts, look(h, v))
	}
	return strings.Join(texts, ", ")
}

// allObjects are those of a heap, in order.
func allObjects(h *heap.Heap) string {
	var texts []string
	for i := range h.Count() {
		v, _ := tag.Ref(i)
		texts = append(texts, look(h, v))
	}
	return strings.Join(texts, " ")
}

// told is a stop with all that it tells; what has no meaning in it must be zero.
func told(h *heap.Heap, s api.Stop) string {
	zero := api.Stop{Kind: s.Kind}
	text := ""
	switch s.Kind {
	case api.StopSafe:
		text = "safe"
	case api.StopPrim:
		zero.Prim, zero.Args = s.Prim, s.Args
		text = scope.PrimName(s.Prim) + "(" + lookAll(h, s.Args) + ")"
	case api.StopSpawn:
		zero.Args = s.Args
		text = "spawn(" + lookAll(h, s.Args) + ")"
	case api.StopDone:
		zero.Value = s.Value
		text = "done " + look(h, s.Value)
	case api.StopThrown:
		zero.Value = s.Value
		text = "thrown " + look(h, s.Value)
	case api.StopDead:
		zero.Fault = s.Fault
		text = "dead " + prim.FaultText(s.Fault)
	case 0:
		text = "goes on"
	}
	if text == "" || !sameStop(s, zero) {
		return "wrong"
	}
	return text
}

func sameStop(a, b api.Stop) bool {
	return a.Kind == b.Kind && a.Prim == b.Prim && a.Value == b.Value && a.Fault == b.Fault && slices.Equal(a.Args, b.Args)
}

// story is a thread's run: what each segment puts out, and its stop. rand is handed its argument, now 7, spawn 9, others nil; into sleep(n) fault n is thrown.
func story(m *Machine, x *Thread) string {
	var segments []string
	for range 3000 {
		before := len(m.Out())
		s := m.Segment(x)
		var words []string
		for _, text := range m.Out()[before:] {
			words = append(words, string(text))
		}
		segments = append(segments, strings.Join(append(words, told(m.Heap(), s)), " "))
		handed := api.Nil
		switch {
		case s.Kind >= api.StopDone:
			return strings.Join(segments, " | ")
		case s.Kind == api.StopSafe:
			continue
		case s.Kind == api.StopSpawn:
			handed = tag.Int(9)
		case s.Prim == api.PrimRand:
			handed = s.Args[0]
		case s.Prim == api.PrimNow:
			handed = tag.Int(7)
		case s.Prim == api.PrimSleep:
			n, _ := tag.Num(s.Args[0])
			s, e := m.Fault(x, n)
			if e != api.OK {
				return "fault " + strconv.Itoa(int(e))
			}
			if s.Kind != 0 {
				return strings.Join(append(segments, told(m.Heap(), s)), " | ")
			}
			continue
		}
		if e := m.Resume(x, handed); e != api.OK {
			return "resume " + strconv.Itoa(int(e))
		}
	}
	return strings.Join(segments, " | ")
}

// toldRun is a program, or what stands for function 0, whose run is written out.
type toldRun struct{ text, want string }

// The chapter's example.
func TestExample(t *testing.T) {
	m := compiled(t, "print(1 + 2);", 10, 10)
	s := m.Segment(m.Main())
	if !sameStop(s, api.Stop{Kind: api.StopDone, Value: api.Nil}) {
		t.Error(s)
	}
	if out := m.Out(); len(out) != 1 || string(out[0]) != "3" {
		t.Errorf("%q", out)
	}
}

// P13.1: what verify.Check tells comes first, then what heap.New tells of most, then depth.
func TestNewErrors(t *testing.T) {
	right := imageOf(fun(0, 0, "atom 0; return"))
	wrong := map[api.Errno]api.Image{
		api.OK:       right,
		api.ErrMany:  {},
		api.ErrArg:   imageOf(fun(1, 1, "atom 0; return")),
		api.ErrForm:  imageOf(fun(0, 0, "atom 0; pop")),
		api.ErrRange: imageOf(fun(0, 0, "load 0; return")),
		api.ErrKind:  imageOf(api.Code{Code: []api.Instr{{Op: api.Ops}}}),
	}
	for first, im := range wrong {
		for _, most := range []int{api.MinInt, -1, 0, 1, api.MaxObjects, api.MaxObjects + 1, api.MaxInt} {
			for _, depth := range []int{api.MinInt, -1, 0, 1, 2, api.MaxDepth, api.MaxDepth + 1, api.MaxInt} {
				want := first
				if want == api.OK && (most < 1 || most > api.MaxObjects || depth < 1 || depth > api.MaxDepth) {
					want = api.ErrArg
				}
				m, e := New(im, most, depth)
				if e != want || (m == nil) != (e != api.OK) {
					t.Errorf("image of %d, %d, %d: %v, %d", first, most, depth, m, e)
				}
			}
		}
	}
}

// P13.1
func TestNewMachine(t *testing.T) {
	for _, most := range []int{1, 3} {
		m := machineOf(t, imageOf(fun(0, 0, "atom 0; return")), most, 1)
		if m.Heap() == nil || m.Heap() != m.Heap() || m.Heap().Count() != 0 || len(m.Out()) != 0 {
			t.Error(m.Heap().Count(), m.Out())
		}
		for i := range 2 {
			if v, e := m.Global(i); v != api.Nil || e != api.OK {
				t.Error(i, v, e)
			}
		}
		for range most {
			if _, e := m.Heap().Str(nil); e != api.OK {
				t.Error(e)
			}
		}
		if _, e := m.Heap().Str(nil); e != api.ErrMany {
			t.Error(e)
		}
	}
	a, b := compiled(t, "var x = [1]; print(x);", 9, 9), compiled(t, "var x = [1]; print(x);", 9, 9)
	story(a, a.Main())
	if v, _ := b.Global(0); v != api.Nil || b.Heap().Count() != 0 || len(b.Out()) != 0 {
		t.Error("machines are not apart")
	}
}

// P13.1: depth is how many calls there may be; a thread begins with one.
func TestDepth(t *testing.T) {
	text := "fn f(n) { if n > 1 { f(n - 1); } else { print(n); } } try { f(%); } catch e { print(e); }"
	for _, depth := range []int{1, 2, 3, 10, api.MaxDepth} {
		for _, calls := range []int{depth - 2, depth - 1, depth, depth + 1} {
			if calls < 1 {
				continue
			}
			m := compiled(t, strings.ReplaceAll(text, "%", strconv.Itoa(calls)), 10, depth)
			got := story(m, m.Main())
			want := strings.Repeat("safe | ", calls+1) + "1 safe" + strings.Repeat(" | safe", calls-1) + " | done nil"
			if calls >= depth {
				want = strings.Repeat("safe | ", depth) + "dead depth"
			}
			if got != want {
				t.Errorf("%d calls, %d allowed: %.200s", calls+1, depth, got)
			}
		}
	}
}

// P13.1: of nil.
func TestNil(t *testing.T) {
	var none *Machine
	m := compiled(t, "yield();", 9, 9)
	x := m.Main()
	var no *Thread
	dead := api.Stop{Kind: api.StopDead, Fault: api.FaultHeap}
	if none.Heap() != nil || none.Main() != nil || len(none.Out()) != 0 {
		t.Error("a nil machine has something")
	}
	for _, l := range [][]api.Value{nil, {api.Nil}} {
		if y, f := none.Spawn(l); y != nil || f != api.FaultHeap {
			t.Error(y, f)
		}
	}
	for _, i := range []int{-1, 0, 1} {
		if v, e := none.Global(i); v != 0 || e != api.ErrNil {
			t.Error(v, e)
		}
	}
	for range 2 { // of a thread that goes on, and of one that waits
		for _, c := range []struct {
			m *Machine
			x *Thread
		}{{none, no}, {none, x}, {m, no}} {
			if s := c.m.Segment(c.x); !sameStop(s, dead) {
				t.Error(s)
			}
			for _, v := range []api.Value{api.Nil, 13} {
				if e := c.m.Resume(c.x, v); e != api.ErrNil {
					t.Error(e)
				}
			}
			for _, f := range []int{0, api.FaultType, api.FaultHeap} {
				if s, e := c.m.Fault(c.x, f); !sameStop(s, api.Stop{}) || e != api.ErrNil {
					t.Error(s, e)
				}
			}
		}
		m.Segment(x)
	}
	if len(no.Calls()) != 0 || no.Waits() || no.Ended() {
		t.Error("a nil thread has something")
	}
	if !x.Waits() || x.Ended() {
		t.Error("a thread has changed")
	}
}

// Rules: what was not made by a call, or goes with another machine, answers, whatever it may be.
func TestOthersEnd(t *testing.T) {
	a := compiled(t, "fn f(a) { return fn () { return a; }; } var g = f(1); sleep(1);", 9, 9)
	b := compiled(t, "yield();", 1, 1)
	x, y := a.Main(), b.Main()
	for range 9 {
		for _, m := range []*Machine{a, b, {}, nil} {
			for _, z := range []*Thread{x, y, {}, nil} {
				if m == a && z == x {
					continue
				}
				m.Segment(z)
				m.Resume(z, api.Nil)
				m.Fault(z, api.FaultType)
				m.Fault(z, api.FaultHeap)
				z.Calls()
				z.Waits()
				z.Ended()
			}
			m.Heap()
			m.Out()
			m.Global(0)
			if m != a {
				m.Main()
				m.Spawn(nil)
				m.Spawn([]api.Value{2})
			}
		}
		a.Segment(x)
	}
}

// spoil writes over all of an image.
func spoil(im api.Image) {
	for f := range im.Funs {
		c := &im.Funs[f]
		clear(c.Code)
		clear(c.Boxes)
		for i := range c.Caps {
			c.Caps[i] = api.Cap{N: 200}
		}
		for i := range c.Tries {
			c.Tries[i] = api.Try{From: -5, Depth: 99}
		}
		*c = api.Code{}
	}
	for i := range im.Strs {
		im.Strs[i] = "other"
	}
	for _, keys := range im.Keys {
		for i := range keys {
			keys[i] = 77
		}
	}
	clear(im.Keys)
}

// Memory: an image may be written over when its machine is made.
func TestImageIsNotKept(t *testing.T) {
	im := imageOf(
		fun(0, 1, "int 5; store 0; box 0; fun 1; int 2; int 4; call 2; pop; int 1; throw; store 0; prim 0; load 0; call 1; return"),
		fun(2, 2, "loadcap 0; loadcell 1; bin 0; str 0; int 3; rec 1; list 3; return"),
	)
	im.Funs[0].Tries = []api.Try{{From: 9, To: 10, Target: 10}}
	im.Funs[1].Boxes = []int{1}
	im.Funs[1].Caps = []api.Cap{{Own: 1, N: 0}}
	m := machineOf(t, im, 20, 5)
	spoil(im)
	for range 2 {
		if got := story(m, m.Main()); got != "safe | safe | 1 done nil" {
			t.Error(got)
		}
	}
	want := `&5 fn:1 &4 "a" {b: 3} [9, "a", {b: 3}]`
	if got := allObjects(m.Heap()); got != want+" "+want {
		t.Error(got)
	}
}
