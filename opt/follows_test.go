package opt

import (
	"fmt"
	"math/rand"
	"slices"
	"strings"
	"testing"

	"jacquard/api"
	"jacquard/base"
	"jacquard/gen"
	"jacquard/heap"
	"jacquard/parse"
	"jacquard/tag"
	"jacquard/verify"
)

// checkMade: all that is promised of code that was made, and what all code keeps to, so that it can be run.
func checkMade(t *testing.T, im api.Image, fun int, how api.How, known []api.Known, seen []api.Seen) *Code {
	t.Helper()
	c, e := Make(im, fun, how, known, seen)
	if e != api.OK || c == nil {
		t.Fatalf("%+v, %d, %v: %d", im, fun, how, e)
	}
	wrong := func(what string, x any) {
		t.Helper()
		t.Fatalf("%+v, function %d, %v, known %v: %s: %v\n%+v", im, fun, how, known, what, x, c)
	}
	if c.Fun() != fun || c.Size() < 1 || c.Size() > most || c.Size() != len(c.Steps()) || c.Registers() > most {
		wrong("frame", c.Size())
	}
	within, deps := c.Within(), c.Deps()
	if !slices.IsSorted(within) || len(slices.Compact(slices.Clone(within))) != len(within) {
		wrong("within", within)
	}
	if how.Inline == 0 && len(within) > 0 {
		wrong("within", within)
	}
	for i, d := range deps {
		if i > 0 && deps[i-1].Global >= d.Global {
			wrong("order", deps)
		}
		k := slices.IndexFunc(known, func(k api.Known) bool { return k.Global == d.Global && k.Val == d.Val })
		loads := slices.ContainsFunc(append([]int{fun}, within...), func(f int) bool {
			return slices.Contains(im.Funs[f].Code, api.Instr{Op: api.OpLoadGlobal, A: d.Global})
		})
		if k < 0 || !loads {
			wrong("deps", deps)
		}
	}
	for _, f := range within {
		counted := slices.ContainsFunc(known, func(k api.Known) bool {
			return k.Fun == f && slices.Contains(deps, api.Dep{Global: k.Global, Val: k.Val})
		})
		if f == fun || !counted || len(im.Funs[f].Boxes) > 0 || len(im.Funs[f].Caps) > 0 {
			wrong("within", within)
		}
	}
	checkSteps(t, im, c)
	return c
}

// checkSteps: each step's numbers are such as there are, each constant is taken, and calls stand as high as verify tells.
func checkSteps(t *testing.T, im api.Image, c *Code) {
	t.Helper()
	heights := make([][]int, len(im.Funs))
	for f := range im.Funs {
		heights[f], _ = verify.Heights(im, f)
	}
	sources := c.Registers() + len(c.Constants())
	if im.Funs[c.Fun()].Slots > c.Registers() {
		t.Fatalf("%+v: too few registers", c)
	}
	taken := map[int]bool{}
	isSource := func(n int) bool { taken[n] = true; return n >= 0 && n < sources }
	for i, s := range c.Steps() {
		what := wrongStep(c, i, s)
		calls := c.Behind(i)
		for _, n := range s.From {
			if !isSource(n) {
				what = "source"
			}
		}
		for n, x := range calls {
			for _, n := range x.Stack {
				if !isSource(n) {
					what = "source on a stack"
				}
			}
			if x.Slots+im.Funs[x.Fun].Slots > c.Registers() || !isHigh(heights[x.Fun], x, s, n == len(calls)-1) {
				what = fmt.Sprint("call ", n, " ", x)
			}
		}
		if what != "" {
			t.Fatalf("%+v\nstep %d: %s: %+v", im, i, what, s)
		}
	}
	for n := c.Registers(); n < sources; n++ {
		if !taken[n] {
			t.Fatalf("%+v: constant %d is not taken: %v", im, n, c.Constants())
		}
	}
}

// wrongStep is what is wrong with a step, its sources and stacks left out.
func wrongStep(c *Code, i int, s Step) string {
	leads := slices.Contains([]int{api.OpJump, api.OpFalse, api.OpLoop, StepTrue, StepBack}, s.Op)
	ends := slices.Contains([]int{api.OpJump, api.OpLoop, api.OpReturn, api.OpThrow, StepBack}, s.Op)
	plain := slices.Contains([]int{StepMove, StepTrue, api.OpJump, api.OpFalse, api.OpLoadGlobal, api.OpReturn}, s.Op)
	guard := s.Op == StepNum || s.Op == StepMinus
	switch {
	case s.Op < 0 || stepName(s.Op) == "":
		return "op"
	case s.To < none || s.To >= c.Registers():
		return "register"
	case leads != (s.Next != none) || s.Next < none || s.Next >= c.Size():
		return "next"
	case !ends && i == c.Size()-1:
		return "goes on behind the end"
	case plain != (len(c.Behind(i)) == 0):
		return "behind"
	case guard != (len(c.Ahead(i)) > 0):
		return "ahead"
	}
	return ""
}

// isHigh: is a call's stack behind a step as high as it must be? What is still to be handed to it, by what it waits for, is not there yet.
func isHigh(heights []int, x Call, s Step, innermost bool) bool {
	switch {
	case innermost && s.Op == api.OpThrow: // behind it there may be no instruction
		return len(x.Stack) == heights[x.At-1]-1
	case heights[x.At] == none: // behind what never comes back
		return true
	case innermost && (s.To == none || s.Op == api.OpBox || s.Op == StepBack):
		return len(x.Stack) == heights[x.At]
	}
	return len(x.Stack)+1 == heights[x.At]
}

// raw is an object as it is, with references by number.
func raw(h *heap.Heap, v api.Value) string {
	switch h.Kind(v) {
	case api.ObjStr:
		b, _ := h.Bytes(v)
		return fmt.Sprintf("%q", b)
	case api.ObjArr, api.ObjCell:
		n, e := h.Len(v)
		if e != api.OK {
			n = 1
		}
		text := fmt.Sprint("row ", h.Kind(v))
		for i := range n {
			x, _ := h.At(v, i)
			text += fmt.Sprint(" ", x)
		}
		return text
	case api.ObjRec:
		text := "rec"
		keys, _ := h.Keys(v)
		for _, k := range keys {
			x, _ := h.Field(v, k)
			text += fmt.Sprint(" ", k, " ", x)
		}
		return text
	case api.ObjFun:
		f, cells, _ := h.FunOf(v)
		return fmt.Sprint("fun ", f, cells)
	}
	re, im, _ := h.CplxOf(v)
	return fmt.Sprint("cplx ", re, " ", im)
}

func rawAll(h *heap.Heap) string {
	var b strings.Builder
	for i := range h.Count() {
		v, _ := tag.Ref(i)
		b.WriteString(raw(h, v))
		b.WriteString("; ")
	}
	return b.String()
}

// pair is a thread of base's and the same one of a loom.
type pair struct {
	x *base.Thread
	s *strand
}

// race runs an image by base and by a loom, which has functions by faster code, and holds all that can be told against each other.
type race struct {
	t     *testing.T
	d     *drawer
	im    api.Image
	m     *base.Machine
	loom  *loom
	pairs []pair
	last  string // what was done last
	made  []string
}

func newRace(t *testing.T, d *drawer, im api.Image, most, depth int, did map[string]int) *race {
	t.Helper()
	m, e := base.New(im, most, depth)
	if e != api.OK {
		t.Fatalf("%+v: %d", im, e)
	}
	c := &race{t: t, d: d, im: im, m: m, loom: newLoom(im, most, depth, did)}
	c.pairs = append(c.pairs, pair{m.Main(), c.loom.main()})
	return c
}

// hold fails, telling both, unless two are the same.
func (c *race) hold(what string, same bool, want, got any) {
	c.t.Helper()
	if !same {
		c.t.Fatalf("%+v\n%s\n%s: %s\n%+v, not\n%+v", c.im, strings.Join(c.made, "\n"), c.last, what, got, want)
	}
}

func sameStop(a, b api.Stop) bool {
	return a.Kind == b.Kind && a.Prim == b.Prim && a.Value == b.Value && a.Fault == b.Fault && slices.Equal(a.Args, b.Args)
}

func sameView(a, b api.View) bool {
	return a.Fun == b.Fun && a.At == b.At && slices.Equal(a.Slots, b.Slots) && slices.Equal(a.Stack, b.Stack) && slices.Equal(a.Cells, b.Cells)
}

// check holds everything against each other.
func (c *race) check() {
	c.t.Helper()
	n, m := c.m.Heap().Count(), c.loom.h.Count()
	c.hold("objects", n == m, n, m)
	for i, v := range c.loom.globals {
		want, _ := c.m.Global(i)
		c.hold("global", want == v, want, v)
	}
	for _, p := range c.pairs {
		c.hold("waits", p.x.Waits() == p.s.waits, p.x.Waits(), p.s.waits)
		c.hold("ended", p.x.Ended() == p.s.ended, p.x.Ended(), p.s.ended)
		want, got := p.x.Calls(), p.s.calls()
		c.hold("calls", slices.EqualFunc(want, got, sameView), want, got)
	}
}

// checkObjects holds what objects have, and what was put out, against each other.
func (c *race) checkObjects() {
	c.t.Helper()
	a, b := rawAll(c.m.Heap()), rawAll(c.loom.h)
	c.hold("objects", a == b, a, b)
	out := c.m.Out()
	c.hold("texts", slices.EqualFunc(out, c.loom.texts, func(x []byte, y string) bool { return string(x) == y }), out, c.loom.texts)
}

func (c *race) start(l []api.Value) {
	c.t.Helper()
	x, a := c.m.Spawn(l)
	s, b := c.loom.spawn(l)
	c.hold("spawned", a == b, a, b)
	if a == 0 {
		c.pairs = append(c.pairs, pair{x, s})
	}
}

// tier makes a version of a function: what some globals are is known, whether they will stay so or not.
func (c *race) tier(f int, how api.How, seen []api.Seen) {
	c.t.Helper()
	if c.loom.versions[f] != nil {
		return
	}
	var known []api.Known
	for g, v := range c.loom.globals {
		if c.d.Intn(16) == 0 {
			continue
		}
		k := api.Known{Global: g, Val: v, Fun: none}
		if n, cells, ok := c.loom.function(v); ok && len(cells) == 0 {
			k.Fun = n
		}
		known = append(known, k)
	}
	c.d.Shuffle(len(known), func(i, j int) { known[i], known[j] = known[j], known[i] })
	code := checkMade(c.t, c.im, f, how, known, seen)
	c.loom.versions[f] = &version{code: code, steps: code.Steps(), constants: code.Constants()}
	c.loom.did["made"]++
	c.made = append(c.made, fmt.Sprintf("%d, %v: %+v", f, how, c.loom.versions[f].steps))
}

// hand gives a thread something, or a fault.
func (c *race) hand(p pair) {
	c.t.Helper()
	if p.s.stop.Kind == api.StopSpawn && len(c.pairs) < 4 {
		c.start(p.s.stop.Args)
	}
	if c.d.Intn(5) > 0 {
		v := tag.Int(c.d.Intn(5))
		if n := c.m.Heap().Count(); n > 0 && c.d.Intn(8) == 0 {
			v, _ = tag.Ref(c.d.Intn(n))
		}
		c.last = fmt.Sprint("resume ", v)
		e := c.m.Resume(p.x, v)
		c.hold("resumed", e == api.OK, e, api.OK)
		p.s.resume(v)
		return
	}
	f := 1 + c.d.Intn(8)
	c.last = fmt.Sprint("fault ", f)
	a, _ := c.m.Fault(p.x, f)
	b := p.s.fault(f)
	c.hold("stop", sameStop(a, b), a, b)
}

// step lets a thread go on, or hands it what it waits for.
func (c *race) step(p pair) {
	c.t.Helper()
	switch {
	case p.s.ended:
		return
	case p.s.waits:
		c.hand(p)
	default:
		c.last = "segment"
		a, b := c.m.Segment(p.x), p.s.segment()
		c.hold("stop", sameStop(a, b), a, b)
	}
	c.check()
}

func (c *race) run(long int) {
	c.t.Helper()
	for n := range long {
		if n%16 == 0 {
			c.checkObjects()
		}
		if c.d.Intn(4) == 0 {
			c.tier(c.d.Intn(len(c.im.Funs)), c.d.how(), c.d.seen(c.im))
		}
		c.step(c.pairs[c.d.Intn(len(c.pairs))])
	}
	c.checkObjects()
}

// P16.2, P16.3: images that are drawn, with threads that go on as is drawn, run by faster code as by ordinary code: at each stop everything is the same.
func TestDrawnImages(t *testing.T) {
	d := &drawer{Rand: rand.New(rand.NewSource(16))}
	did := map[string]int{}
	taken := 0
	for n := range 4500 {
		im := d.image()
		for range n % 4 {
			d.spoil(&im)
		}
		if _, _, e := verify.Check(im); e != api.OK {
			if n%4 == 0 {
				t.Fatalf("%+v: %d", im, e)
			}
			continue
		}
		taken++
		c := newRace(t, d, im, []int{1 + d.Intn(40), 100, 200}[d.Intn(3)], []int{1 + d.Intn(6), 20, 20, 20}[d.Intn(4)], did)
		for f := range im.Funs { // ahead of everything nothing but nil is known
			if d.Intn(3) == 0 {
				c.tier(f, d.how(), d.seen(im))
			}
		}
		c.run(150)
	}
	if taken < 1500 {
		t.Error(taken)
	}
	wantDid(t, did, 200, "Move True Prim Enter Back Num jump false loop call spawn return throw bin not neg index setindex field setfield list rec fun str box loadcell storecell loadcap storecap loadglobal storeglobal")
	wantDid(t, did, 10, "Minus")
	for what, least := range map[string]int{"left: thrown": 1000, "left: guard": 100, "left: ended": 5, "left, calls: 1": 1000, "left, calls: 2": 100, "left, calls: 3": 20, "within 1": 500, "within 2": 40, "within 3": 5} {
		if did[what] < least {
			t.Error(what, did[what])
		}
	}
}

// wantDid: so often at least each of these steps was done.
func wantDid(t *testing.T, did map[string]int, least int, names string) {
	t.Helper()
	for _, name := range strings.Fields(names) {
		if did["fast "+name] < least {
			t.Error(name, did["fast "+name])
		}
	}
}

// compiled is a program's image.
func compiled(t *testing.T, text string) api.Image {
	t.Helper()
	l, e, at := parse.Parse([]byte(text))
	if e != api.OK {
		t.Fatalf("%s: %d at %d", text, e, at)
	}
	im, e, at := gen.Compile(l)
	if e != api.OK {
		t.Fatalf("%s: %d at %d", text, e, at)
	}
	return im
}

// P16.3: programs by text, each with many ways in which its threads go on, functions get faster code, and globals are written.
func TestPrograms(t *testing.T) {
	d := &drawer{Rand: rand.New(rand.NewSource(17))}
	did := map[string]int{}
	for _, text := range []string{
		"fn fib(n) { if n < 2 { return n; } return fib(n - 1) + fib(n - 2); } fn two(n) { return [fib(n), fib(n + 1)]; } while true { try { print(two(3)); } catch e { print(e); } }",
		"fn a(n) { return n + k; } fn b(n) { return a(n) * a(2); } fn c(n) { return b(a(n)) - k; } fn d(x, y) { return c(x) + [c(y), b(y)][0]; } fn e(n) { var x = d(n, 2); return -x + d(x, n); } var k = 3; while true { e(k); if e(1) == 5 { k = k + 1; } }",
		"var k = 0; fn at() { return k; } fn put2(n) { k = n; return at() + at(); } fn all(n) { var i = 0; while i < n { try { put2(put2(i) / (i - 1)); } catch e { put2(0); } i = i + 1; } return i; } spawn all(9); spawn all(7); spawn put2(3); while true { all(2); }",
		"fn f(a, b) { return a and b or g(a); } fn g(a) { if not a { return nil; } else { var x = [a, f(a, -1)]; x[0] = x[1] == 1; return x[0]; } } while true { f(1, 2); f(nil, 2); f(1, false); f(true, nil); try { f(f, g); } catch e { g = nil; } }",
		"fn each(l, n) { var i = 0; while i < n { l[i] = twice(l[i]); i = i + 1; } return l; } fn twice(x) { return x + x; } while true { each([1, 2], 2); each([1, \"a\", cx(1, 2)], 3); try { each([1], 2); } catch e { print(e); } try { each([nil], 1); } catch e { } }",
		"fn h(n) { { var n = n + 1; var m = n; n = m * 2; { var o = m; m = n; return o + m + n; } } } fn h2(n) { return h(n) + h(h(n)); } fn h3(n) { return h2(h2(n)) + h2(1); } fn h4(n) { return h3(n) - h3(h(n)); } while true { h4(2); yield(); spawn h4(3); h4(rand(3)); }",
		"fn count(n) { while n > 0 { n = n - one(); if n == 3 { continue; } if zero() { break; } } return n; } fn one() { return 1; } fn zero() { return false; } fn up(a) { var f = fn (b) { a = a + b; return a; }; var g = {f: f, n: count(a)}; g.n = g.f; return f(one()) + count(2); } while true { up(2); up(count(5)); spawn count(2); }",
		"fn odd(n) { if n == 0 { return false; } return even(n - 1); } fn even(n) { if n == 0 { return true; } return odd(n - 1); } fn ask(n) { return (not odd(n)) == even(n); } while true { ask(5); ask(2); try { ask(nil); } catch e { throw e; } }",
	} {
		im := compiled(t, text)
		for range 150 {
			newRace(t, d, im, []int{20, 300}[d.Intn(2)], []int{1 + d.Intn(8), 100}[d.Intn(2)], did).run(200)
		}
	}
	wantDid(t, did, 1000, "Move True Enter Back Num false loop call return bin index")
	wantDid(t, did, 10, "Minus")
	for what, least := range map[string]int{"left: thrown": 300, "left: guard": 50, "left: ended": 50, "left, calls: 2": 50, "left, calls: 3": 3, "within 1": 1000, "within 2": 1000, "within 3": 300, "within 4": 50} {
		if did[what] < least {
			t.Error(what, did[what])
		}
	}
}
