package tier

import (
	"math"
	"slices"
	"strconv"
	"strings"
	"testing"

	"jacquard/api"
	"jacquard/base"
	"jacquard/code"
	"jacquard/gen"
	"jacquard/heap"
	"jacquard/parse"
	"jacquard/tag"
	"jacquard/verify"
)

// ops reads instructions: "int 1; return".
func ops(text string) []api.Instr {
	numbers := map[string]int{}
	for op := range api.Ops {
		numbers[code.Name(op)] = op
	}
	var l []api.Instr
	for _, word := range strings.Split(text, ";") {
		f := strings.Fields(word)
		op, is := numbers[f[0]]
		if !is {
			panic(word)
		}
		i := api.Instr{Op: op}
		if len(f) > 1 {
			n, err := strconv.Atoi(f[1])
			if err != nil {
				panic(err)
			}
			i.A = n
		}
		l = append(l, i)
	}
	return l
}

// fun is a function with these instructions.
func fun(params, slots int, text string) api.Code {
	return api.Code{Params: params, Slots: slots, Code: ops(text)}
}

// imageOf has some texts, four globals and these functions.
func imageOf(funs ...api.Code) api.Image {
	return api.Image{Funs: funs, Strs: []string{"a", "b"}, Keys: [][]int{{0, 1}}, Globals: 4}
}

func machineOf(t *testing.T, im api.Image, most, depth int) *Machine {
	t.Helper()
	m, e := New(im, most, depth)
	if e != api.OK || m == nil {
		f, at, _ := verify.Check(im)
		t.Fatalf("%d (function %d at %d)", e, f, at)
	}
	return m
}

// imageOfText is a program's.
func imageOfText(t *testing.T, text string) api.Image {
	t.Helper()
	l, e, at := parse.Parse([]byte(text))
	if e != api.OK {
		t.Fatalf("%s: %d at %d", text, e, at)
	}
	im, e, at := gen.Compile(l)
	if e != api.OK {
		t.Fatalf("%s: %d at %d", text, e, at)
	}
	return im
}

func compiled(t *testing.T, text string, most, depth int) *Machine {
	t.Helper()
	return machineOf(t, imageOfText(t, text), most, depth)
}

// goOn lets a thread go on, so many segments; what it waits for is nil. The last stop is told.
func goOn(t *testing.T, m *Machine, x *base.Thread, segments int) api.Stop {
	t.Helper()
	var s api.Stop
	for range segments {
		if s = m.Segment(x); x.Waits() {
			if e := m.Resume(x, api.Nil); e != api.OK {
				t.Fatal(e)
			}
		}
	}
	return s
}

// toTheEnd lets a thread go on till it ends.
func toTheEnd(t *testing.T, m *Machine, x *base.Thread) api.Stop {
	t.Helper()
	for range 10000 {
		if s := goOn(t, m, x, 1); x.Ended() {
			return s
		}
	}
	t.Fatal("it does not end")
	return api.Stop{}
}

func out(m *Machine) string {
	var l []string
	for _, b := range m.Out() {
		l = append(l, string(b))
	}
	return strings.Join(l, " ")
}

// changes are shown as "made 0 of 1".
func changes(m *Machine) string {
	var l []string
	for _, c := range m.Changes() {
		kind := "wrong"
		if c.Kind >= api.TierMade && c.Kind <= api.TierLeft {
			kind = []string{"made", "ended", "entered", "left"}[c.Kind-1]
		}
		l = append(l, kind+" "+strconv.Itoa(c.Id)+" of "+strconv.Itoa(c.Fun))
	}
	return strings.Join(l, ", ")
}

func wantChanges(t *testing.T, m *Machine, want string) {
	t.Helper()
	if got := changes(m); got != want {
		t.Errorf("%s, not %s", got, want)
	}
}

func wantTier(t *testing.T, m *Machine, f int, how api.How, want api.Errno) {
	t.Helper()
	before := changes(m)
	if e := m.Tier(f, how); e != want {
		t.Errorf("Tier(%d, %v) = %d, not %d", f, how, e, want)
	}
	if want != api.OK && changes(m) != before {
		t.Errorf("Tier(%d, %v): something happened", f, how)
	}
}

func wantFast(t *testing.T, m *Machine, f, id int, ok bool) {
	t.Helper()
	if gotId, gotOk := m.Fast(f); gotId != id || gotOk != ok {
		t.Errorf("Fast(%d) = %d, %v", f, gotId, gotOk)
	}
}

func wantVersions(t *testing.T, m *Machine, f, want int, wantE api.Errno) {
	t.Helper()
	if n, e := m.Versions(f); n != want || e != wantE {
		t.Errorf("Versions(%d) = %d, %d, not %d, %d", f, n, e, want, wantE)
	}
}

func wantHeat(t *testing.T, m *Machine, f, want int, wantE api.Errno) {
	t.Helper()
	if n, e := m.Heat(f); n != want || e != wantE {
		t.Errorf("Heat(%d) = %d, %d, not %d, %d", f, n, e, want, wantE)
	}
}

func wantOn(t *testing.T, m *Machine, id int, want ...api.Dep) {
	t.Helper()
	if l := m.On(id); !slices.Equal(l, want) {
		t.Errorf("On(%d) = %v, not %v", id, l, want)
	}
}

// hows are all there are.
func hows() []api.How {
	var l []api.How
	for fold := range 2 {
		for guard := range 2 {
			for inline := range api.MaxInline + 1 {
				l = append(l, api.How{Fold: fold, Guard: guard, Inline: inline})
			}
		}
	}
	return l
}

// far are numbers far away from all places.
func far() []int {
	return []int{1 << 31, 1 << 32, 1<<32 + 1, -1 << 32, api.MaxInt, api.MinInt, math.MaxInt, math.MinInt, math.MinInt + 1}
}

// The chapter's example.
func TestExample(t *testing.T) {
	text := "fn f(n) { return n + 1; } print(f(1)); print(f(2));"
	for _, how := range hows() {
		m := compiled(t, text, 10, 10)
		x := m.Main()
		for out(m) == "" {
			goOn(t, m, x, 1)
		}
		if out(m) != "2" { // the segment in which that is put out ends behind the beginning of the second call
			t.Fatal(out(m))
		}
		m = compiled(t, text, 10, 10)
		x = m.Main()
		goOn(t, m, x, 3)
		wantTier(t, m, 1, how, api.OK)
		if s := toTheEnd(t, m, x); s.Kind != api.StopDone || out(m) != "2 3" {
			t.Error(how, s, out(m))
		}
		wantChanges(t, m, "made 0 of 1, entered 0 of 1")
	}
}

// The whole's example 8.
func TestCountsOn(t *testing.T) {
	for _, how := range hows() {
		m := compiled(t, "fn f(n) { return n + k; } var k = 5; f(1); print(f(2)); k = 6; print(f(2));", 10, 10)
		x := m.Main()
		goOn(t, m, x, 2)
		wantTier(t, m, 1, how, api.OK)
		wantOn(t, m, 0, api.Dep{Global: 1, Val: tag.Int(5)})
		wantFast(t, m, 1, 0, true)
		toTheEnd(t, m, x)
		if out(m) != "7 8" {
			t.Error(out(m))
		}
		wantFast(t, m, 1, 0, false)
		wantChanges(t, m, "made 0 of 1, entered 0 of 1, entered 0 of 1, ended 0 of 1")
	}
}

// P17.1: as base.New.
func TestNewErrors(t *testing.T) {
	right := imageOf(fun(0, 0, "atom 0; return"))
	for _, im := range []api.Image{
		right, {}, imageOf(fun(1, 1, "atom 0; return")), imageOf(fun(0, 0, "atom 0; pop")), imageOf(fun(0, 0, "load 0; return")),
		imageOf(api.Code{Code: []api.Instr{{Op: api.Ops}}}), {Funs: right.Funs, Globals: -1}, {Funs: right.Funs, Globals: api.MaxGlobals + 1},
		{Funs: right.Funs, Globals: api.MaxGlobals}, {Funs: right.Funs},
		{Funs: slices.Repeat(right.Funs, api.MaxFuns)}, {Funs: slices.Repeat(right.Funs, api.MaxFuns+1)},
	} {
		for _, most := range append(far(), -1, 0, 1, api.MaxObjects, api.MaxObjects+1) {
			for _, depth := range append(far(), -1, 0, 1, api.MaxDepth, api.MaxDepth+1) {
				_, want := base.New(im, most, depth)
				m, e := New(im, most, depth)
				if e != want || (m == nil) != (e != api.OK) {
					t.Errorf("%d functions, %d globals, %d, %d: %d, not %d", len(im.Funs), im.Globals, most, depth, e, want)
				}
			}
		}
	}
}

// P17.1: nothing has happened at first.
func TestNewMachine(t *testing.T) {
	m := machineOf(t, imageOf(fun(0, 0, "atom 0; return"), fun(0, 0, "atom 0; return")), 1, 1)
	for f := range 2 {
		wantFast(t, m, f, 0, false)
		wantVersions(t, m, f, 0, api.OK)
		wantHeat(t, m, f, 0, api.OK)
	}
	wantChanges(t, m, "")
	wantOn(t, m, 0)
	if m.Heap() == nil || m.Heap() != m.Machine.Heap() || len(m.Out()) != 0 {
		t.Error("not a base.Machine's")
	}
	other := compiled(t, "var k = 1; fn f() { return k; } f();", 9, 9)
	wantTier(t, other, 1, api.How{}, api.OK)
	wantChanges(t, m, "")
	wantFast(t, m, 1, 0, false)
}

// P17.1: of a nil machine, and of one that New did not make, whatever the arguments are.
func TestNil(t *testing.T) {
	b, _ := base.New(imageOf(fun(0, 0, "atom 0; return")), 1, 1)
	for _, m := range []*Machine{nil, {}, {Machine: b}} {
		for _, f := range append(far(), -1, 0, 1) {
			for _, how := range append(hows(), api.How{Fold: 2}) {
				if e := m.Tier(f, how); e != api.ErrNil {
					t.Error(e)
				}
			}
			wantFast(t, m, f, 0, false)
			wantVersions(t, m, f, 0, api.ErrNil)
			wantHeat(t, m, f, 0, api.ErrNil)
			wantOn(t, m, f)
		}
		wantChanges(t, m, "")
	}
}

// twoFuns are called by nobody.
func twoFuns() api.Image {
	return imageOf(fun(0, 1, "atom 0; return"), fun(1, 2, "load 0; loadglobal 1; bin 0; return"))
}

// P17.2: which functions, and hows, there are.
func TestTierArgs(t *testing.T) {
	for _, how := range hows() {
		m := machineOf(t, twoFuns(), 1, 1)
		wantTier(t, m, 1, how, api.OK)
		wantTier(t, m, 0, how, api.OK)
		wantFast(t, m, 0, 1, true)
		wantFast(t, m, 1, 0, true)
	}
	m := machineOf(t, twoFuns(), 1, 1)
	for range 2 { // once there is no version, once there is one that is valid
		for _, f := range append(far(), -1, 2) {
			wantTier(t, m, f, api.How{}, api.ErrArg)
			wantFast(t, m, f, 0, false)
			wantVersions(t, m, f, 0, api.ErrArg)
			wantHeat(t, m, f, 0, api.ErrArg)
			wantOn(t, m, f)
		}
		for _, n := range append(far(), -1, 2, api.MaxInline+1) {
			wantTier(t, m, 1, api.How{Fold: n}, api.ErrArg)
			wantTier(t, m, 1, api.How{Guard: n}, api.ErrArg)
			wantTier(t, m, 2, api.How{Guard: n}, api.ErrArg)
			if n != 2 {
				wantTier(t, m, 1, api.How{Inline: n}, api.ErrArg)
			}
		}
		m.Tier(1, api.How{})
		wantTier(t, m, 1, api.How{}, api.ErrTime)
		wantVersions(t, m, 1, 1, api.OK)
	}
}

// P17.2: MaxVersions, one after another; errors in their order.
func TestVersions(t *testing.T) {
	m := compiled(t, "fn f() { return a + b + c + d + e; } fn g() { return 1; } var a = 1; var b = 1; var c = 1; var d = 1; var e = 1; a = 2; b = 2; c = 2; d = 2; e = 2;", 9, 9)
	x := m.Main()
	goOn(t, m, x, 7)
	for n := range 4 {
		wantFast(t, m, 1, 0, false)
		wantVersions(t, m, 1, n, api.OK)
		wantTier(t, m, 1, api.How{Fold: n % 2}, api.OK)
		wantFast(t, m, 1, n, true)
		wantVersions(t, m, 1, n+1, api.OK)
		wantTier(t, m, 1, api.How{}, api.ErrTime)
		var on []api.Dep
		for g := 2 + n; g < 7; g++ { // what was written twice is not known any more
			on = append(on, api.Dep{Global: g, Val: tag.Int(1)})
		}
		wantOn(t, m, n, on...)
		goOn(t, m, x, 1)
	}
	wantFast(t, m, 1, 0, false)
	for _, how := range hows() {
		wantTier(t, m, 1, how, api.ErrMany)
	}
	wantTier(t, m, 1, api.How{Inline: 5}, api.ErrArg)
	wantVersions(t, m, 1, 4, api.OK)
	wantVersions(t, m, 2, 0, api.OK)
	wantTier(t, m, 2, api.How{}, api.OK)
	wantFast(t, m, 2, 4, true)
	wantOn(t, m, 3, api.Dep{Global: 5, Val: tag.Int(1)}, api.Dep{Global: 6, Val: tag.Int(1)}) // of those that ended, too
	wantOn(t, m, 4)
	wantOn(t, m, 5)
	wantOn(t, m, -1)
	wantChanges(t, m, "made 0 of 1, ended 0 of 1, made 1 of 1, ended 1 of 1, made 2 of 1, ended 2 of 1, made 3 of 1, ended 3 of 1, made 4 of 2")
}

// longFun has more steps than instructions: ways that meet again, which has to be said at the end of each.
func longFun(ways, more int) api.Code {
	var c api.Code
	c.Slots = 1
	for i := range ways {
		c.Code = append(c.Code, ops("loadglobal 0; false 0")...)
		c.Code[len(c.Code)-1].A = 2*ways + 1 + i
	}
	c.Code = append(c.Code, api.Instr{Op: api.OpJump, A: 3*ways + 1})
	for range ways + more {
		c.Code = append(c.Code, ops("box 0")...)
	}
	c.Code = append(c.Code, ops("loadglobal 0; return")...)
	return c
}

// P17.2: ErrMany, where the code would be too long; that is no version.
func TestTooLong(t *testing.T) {
	long := longFun(10000, 25535)
	m := machineOf(t, imageOf(fun(0, 0, "int 1; storeglobal 0; atom 0; return"), long, fun(0, 0, "atom 0; return")), 9, 9)
	for range 6 {
		wantTier(t, m, 1, api.How{}, api.ErrMany)
		wantTier(t, m, 1, api.How{Guard: 2}, api.ErrArg)
		wantVersions(t, m, 1, 0, api.OK)
		wantFast(t, m, 1, 0, false)
	}
	wantTier(t, m, 2, api.How{}, api.OK)
	wantFast(t, m, 2, 0, true)
	goOn(t, m, m.Main(), 1) // now it is known which way it goes
	wantTier(t, m, 1, api.How{Fold: 1}, api.OK)
	wantTier(t, m, 1, api.How{}, api.ErrTime)
}

// P17.2: known is what was written just once: neither what never was, nor what was written again, with whatever value.
func TestKnown(t *testing.T) {
	m := compiled(t, "fn f() { return [a, b, c, d]; } var a = 1; var b = [2]; var c = 3; c = 3; f(); var d = 5;", 9, 9)
	goOn(t, m, m.Main(), 5)
	wantTier(t, m, 1, api.How{}, api.OK)
	list, _ := m.Global(2)
	wantOn(t, m, 0, api.Dep{Global: 1, Val: tag.Int(1)}, api.Dep{Global: 2, Val: list})
}

// askingImage is one of which function 0 asks what global 0 is, then calls that again and again by function 2.
func askingImage() api.Image {
	return imageOf(
		fun(0, 0, "prim 17; int 1; call 1; storeglobal 0; fun 2; call 0; pop; loop 4"),
		fun(0, 0, "int 7; return"),
		fun(0, 0, "loadglobal 0; call 0; return"),
	)
}

// P17.2, P17.4: a function that is known is one of the machine's, without cells; whoever has the heap may make others.
func TestKnownFunctions(t *testing.T) {
	for _, give := range []func(h *heap.Heap) (v api.Value, e api.Errno){
		func(h *heap.Heap) (api.Value, api.Errno) { return h.Fun(1, nil) },
		func(h *heap.Heap) (api.Value, api.Errno) { return h.Fun(1, []api.Value{api.True}) },
		func(h *heap.Heap) (api.Value, api.Errno) { return h.Fun(2, nil) },
		func(h *heap.Heap) (api.Value, api.Errno) { return h.Fun(3, nil) },
		func(h *heap.Heap) (api.Value, api.Errno) { return h.Fun(1<<40, nil) },
		func(h *heap.Heap) (api.Value, api.Errno) { return h.Str(nil) },
		func(*heap.Heap) (api.Value, api.Errno) { return 3 + 4*api.PrimNow, api.OK },
		func(*heap.Heap) (api.Value, api.Errno) { return api.Nil, api.OK },
	} {
		c := &pair{machineOf(t, askingImage(), 99, 20), nil}
		c.plain, _ = base.New(askingImage(), 99, 20)
		x, y := c.Main(), c.plain.Main()
		c.Segment(x)
		c.plain.Segment(y)
		v, _ := give(c.Heap())
		give(c.plain.Heap())
		c.Resume(x, v)
		c.plain.Resume(y, v)
		for n := range 30 {
			if n == 1 {
				wantTier(t, c.Machine, 2, api.How{Inline: 4}, api.OK)
				wantOn(t, c.Machine, 0, api.Dep{Global: 0, Val: v})
			}
			a, b := c.Segment(x), c.plain.Segment(y)
			if !sameStop(a, b) || !slices.EqualFunc(x.Calls(), y.Calls(), sameView) {
				t.Fatal(v, a, b, x.Calls(), y.Calls())
			}
		}
	}
}

// pair is an image's machine and an ordinary one.
type pair struct {
	*Machine
	plain *base.Machine
}

// P17.2: a thread that is spawned may be handed what is no value, and write it: that is nothing that can be known.
func TestWordsThatAreNoValues(t *testing.T) {
	m := machineOf(t, imageOf(fun(0, 0, "atom 0; return"), fun(1, 1, "load 0; storeglobal 0; load 0; storeglobal 1; loadglobal 0; return")), 9, 9)
	f, _ := m.Heap().Fun(1, nil)
	for n, v := range []api.Value{13, math.MaxUint64} {
		x, fault := m.Spawn([]api.Value{f, v})
		if fault != api.FaultNone {
			t.Fatal(fault)
		}
		goOn(t, m, x, 1)
		wantTier(t, m, n, api.How{Fold: 1, Guard: 1}, api.OK)
		if s := toTheEnd(t, m, x); s.Kind != api.StopDone || s.Value != v {
			t.Error(s)
		}
	}
}
