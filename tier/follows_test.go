package tier

import (
	"fmt"
	"math/rand"
	"slices"
	"strings"
	"testing"

	"jacquard/api"
	"jacquard/base"
	"jacquard/heap"
	"jacquard/tag"
	"jacquard/verify"
)

// raw is an object as it is, with references by number.
func raw(h *heap.Heap, v api.Value) string {
	switch h.Kind(v) {
	case api.ObjStr:
		b, _ := h.Bytes(v)
		return fmt.Sprintf("%q", b)
	case api.ObjArr, api.ObjCell:
		n, e := h.Len(v)
		if e != api.OK {
			n = 1
		}
		text := fmt.Sprint("row ", h.Kind(v))
		for i := range n {
			x, _ := h.At(v, i)
			text += fmt.Sprint(" ", x)
		}
		return text
	case api.ObjRec:
		text := "rec"
		keys, _ := h.Keys(v)
		for _, k := range keys {
			x, _ := h.Field(v, k)
			text += fmt.Sprint(" ", k, " ", x)
		}
		return text
	case api.ObjFun:
		f, cells, _ := h.FunOf(v)
		return fmt.Sprint("fun ", f, cells)
	}
	re, im, _ := h.CplxOf(v)
	return fmt.Sprint("cplx ", re, " ", im)
}

func rawAll(h *heap.Heap) string {
	var b strings.Builder
	for i := range h.Count() {
		v, _ := tag.Ref(i)
		b.WriteString(raw(h, v))
		b.WriteString("; ")
	}
	return b.String()
}

func sameStop(a, b api.Stop) bool {
	return a.Kind == b.Kind && a.Prim == b.Prim && a.Value == b.Value && a.Fault == b.Fault && slices.Equal(a.Args, b.Args)
}

func sameView(a, b api.View) bool {
	return a.Fun == b.Fun && a.At == b.At && slices.Equal(a.Slots, b.Slots) && slices.Equal(a.Stack, b.Stack) && slices.Equal(a.Cells, b.Cells)
}

// trio is a thread of a base.Machine, the same one of a Machine, and of a model.
type trio struct {
	x, y *base.Thread
	s    *strand
}

// race runs an image by a base.Machine, by a Machine, of which functions get faster code, and by a model, and holds all that can be told against each other.
type race struct {
	t       *testing.T
	d       *drawer
	im      api.Image
	plain   *base.Machine
	fast    *Machine
	model   *model
	trios   []trio
	exact   bool // no code within, nor guards: the model knows all changes
	checked int  // so many changes are
	last    string
}

func newRace(t *testing.T, d *drawer, im api.Image, most, depth int, exact bool, did map[string]int) *race {
	t.Helper()
	c := &race{t: t, d: d, im: im, fast: machineOf(t, im, most, depth), model: newModel(im, most, depth, did), exact: exact}
	c.plain, _ = base.New(im, most, depth)
	return c
}

func (c *race) begin() {
	c.t.Helper()
	c.trios = append(c.trios, trio{c.plain.Main(), c.fast.Main(), c.model.main()})
	c.check()
}

// hold fails, telling both, unless two are the same.
func (c *race) hold(what string, same bool, want, got any) {
	c.t.Helper()
	if !same {
		c.t.Fatalf("%+v\n%s\n%s: %s\n%+v, not\n%+v", c.im, changes(c.fast), c.last, what, got, want)
	}
}

// check holds everything against each other.
func (c *race) check() {
	c.t.Helper()
	for i, want := range c.model.globals {
		a, _ := c.plain.Global(i)
		b, _ := c.fast.Global(i)
		c.hold("global", a == want && b == want, want, b)
	}
	for _, p := range c.trios {
		c.hold("waits", p.x.Waits() == p.s.waits && p.y.Waits() == p.s.waits, p.s.waits, p.y.Waits())
		c.hold("ended", p.x.Ended() == p.s.ended && p.y.Ended() == p.s.ended, p.s.ended, p.y.Ended())
		want, got := p.x.Calls(), p.y.Calls()
		c.hold("calls", slices.EqualFunc(want, got, sameView), want, got)
		c.hold("calls of the model", slices.EqualFunc(want, p.s.calls(), sameView), want, p.s.calls())
	}
	c.checkVersions()
	c.checkChanges()
}

// checkObjects holds what objects have, and what was put out, against each other.
func (c *race) checkObjects() {
	c.t.Helper()
	want, a, b := rawAll(c.plain.Heap()), rawAll(c.fast.Heap()), rawAll(c.model.h)
	c.hold("objects", a == want && b == want, want, a)
	want, a = fmt.Sprintf("%q", c.plain.Out()), fmt.Sprintf("%q", c.fast.Out())
	c.hold("texts", a == want && fmt.Sprintf("%q", c.model.texts) == want, want, a)
}

// P17.2, P17.5, P17.6
func (c *race) checkVersions() {
	c.t.Helper()
	for f, want := range c.model.heat {
		n, e := c.fast.Heat(f)
		c.hold("heat", n == want && e == api.OK, want, n)
		n, e = c.fast.Versions(f)
		c.hold("versions", n == c.model.had(f) && n <= api.MaxVersions && e == api.OK, c.model.had(f), n)
		id, ok := c.fast.Fast(f)
		wantId := c.model.valid(f)
		c.hold("fast", ok == (wantId != none) && id == max(wantId, 0), wantId, id)
		if !ok {
			continue
		}
		for _, d := range c.fast.On(id) {
			c.hold("counts on", c.model.globals[d.Global] == d.Val, c.model.globals[d.Global], d)
		}
	}
}

// checkChanges: the new ones are what the model has; or, if it does not know all, such as there may be.
func (c *race) checkChanges() {
	c.t.Helper()
	got, want := c.fast.Changes(), c.model.changes
	if c.exact {
		c.hold("changes", len(got) == len(want) && slices.Equal(got[c.checked:], want[c.checked:]), want, got)
		c.checked = len(got)
		return
	}
	isNone := func(x api.Change) bool { return x.Kind == api.TierEntered || x.Kind == api.TierLeft }
	got, want = slices.DeleteFunc(got, isNone), slices.DeleteFunc(slices.Clone(want), isNone)
	c.hold("changes", slices.Equal(got, want), want, got)
}

// checkStory, P17.6: what happened to versions may have happened.
func (c *race) checkStory() {
	c.t.Helper()
	type state struct{ made, ended, entered, left int }
	l := make([]state, len(c.model.versions))
	entered, begun := 0, 0
	for _, x := range c.fast.Changes() {
		ok := x.Id >= 0 && x.Id < len(l) && x.Fun == c.model.versions[x.Id].fun
		c.hold("change", ok, "one of a version", x)
		s := &l[x.Id]
		switch x.Kind {
		case api.TierMade:
			ok = s.made == 0
			s.made++
		case api.TierEnded:
			ok = s.made == 1 && s.ended == 0
			s.ended++
		case api.TierEntered:
			ok = s.made == 1 && s.ended == 0
			s.entered++
			entered++
		case api.TierLeft:
			ok = s.left < s.entered
			s.left++
		default:
			ok = false
		}
		c.hold("change", ok, "one that may be", x)
	}
	for _, x := range c.model.changes {
		if x.Kind == api.TierEntered {
			begun++
		}
	}
	c.hold("entered", entered <= begun, begun, entered)
}

func (c *race) start(l []api.Value) {
	c.t.Helper()
	x, want := c.plain.Spawn(l)
	y, a := c.fast.Spawn(l)
	s, b := c.model.spawn(l)
	c.hold("spawned", a == want && b == want && (x == nil) == (y == nil), want, a)
	if want == 0 {
		c.trios = append(c.trios, trio{x, y, s})
	}
}

// tier makes a version of a function, if it may have one.
func (c *race) tier(f int, how api.How) {
	c.t.Helper()
	if c.exact {
		how.Guard, how.Inline = 0, 0
	}
	want := api.OK
	switch {
	case c.model.valid(f) != none:
		want = api.ErrTime
	case c.model.had(f) == api.MaxVersions:
		want = api.ErrMany
	}
	c.last = fmt.Sprint("tier ", f, how)
	e := c.fast.Tier(f, how)
	c.hold("error", e == want, want, e)
	c.model.did[fmt.Sprint("tier ", e)]++
	if e != api.OK {
		return
	}
	on := c.fast.On(len(c.model.versions))
	for i, d := range on {
		c.hold("order", i == 0 || on[i-1].Global < d.Global, "in order", on)
		c.hold("writes", c.model.writes[d.Global] == 1, 1, c.model.writes[d.Global])
	}
	c.model.made(f, on)
	c.check()
}

// hand gives a thread something, or a fault; at times it can't be that.
func (c *race) hand(p trio) {
	c.t.Helper()
	if p.s.waits && p.s.stop.Kind == api.StopSpawn && len(c.trios) < 4 {
		c.start(p.s.stop.Args)
	}
	if c.d.Intn(5) > 0 {
		v := []api.Value{tag.Int(c.d.Intn(5)), api.Nil, api.True}[c.d.Intn(12)%3%(1+c.d.Intn(3))]
		if n := c.plain.Heap().Count(); c.d.Intn(6) == 0 {
			v, _ = tag.Ref(c.d.Intn(n + 1))
		}
		c.last = fmt.Sprint("resume ", v)
		want, got := c.plain.Resume(p.x, v), c.fast.Resume(p.y, v)
		c.hold("resumed", want == got, want, got)
		if want == api.OK {
			p.s.resume(v)
		}
		return
	}
	f := []int{c.d.Intn(10), c.d.Intn(10), c.d.Intn(10), 99 + c.d.Intn(5)}[c.d.Intn(4)]
	c.last = fmt.Sprint("fault ", f)
	want, e := c.plain.Fault(p.x, f)
	got, gotE := c.fast.Fault(p.y, f)
	c.hold("stop", sameStop(want, got) && e == gotE, want, got)
	if e == api.OK {
		b := p.s.fault(f)
		c.hold("stop of the model", sameStop(want, b), want, b)
	}
}

// step lets a thread go on, or hands it what it waits for.
func (c *race) step(p trio) {
	c.t.Helper()
	if p.s.ended && c.d.Intn(8) > 0 {
		return
	}
	if p.s.waits && c.d.Intn(8) > 0 || c.d.Intn(40) == 0 {
		c.hand(p)
	} else {
		c.last = "segment"
		want, a, b := c.plain.Segment(p.x), c.fast.Segment(p.y), p.s.segment()
		c.hold("stop", sameStop(want, a), want, a)
		c.hold("stop of the model", sameStop(want, b), want, b)
		c.model.did[fmt.Sprint("stop ", want.Kind)]++
	}
	c.check()
}

func (c *race) run(long int) {
	c.t.Helper()
	for f := range c.im.Funs { // ahead of everything nothing is known
		if c.d.Intn(6) == 0 {
			c.tier(f, c.d.how())
		}
	}
	c.begin()
	often := []int{3, 10, 30}[c.d.Intn(3)]
	for n := range long {
		if n%16 == 0 {
			c.checkObjects()
		}
		if c.d.Intn(often) == 0 {
			c.tier(c.d.Intn(len(c.im.Funs)), c.d.how())
		}
		c.step(c.trios[c.d.Intn(len(c.trios))])
		if c.d.Intn(100) == 0 {
			c.begin()
		}
	}
	c.checkObjects()
	c.checkStory()
	for _, x := range c.fast.Changes() {
		c.model.did[fmt.Sprint("fast change ", x.Kind)]++
	}
}

// wantDid: so often at least each of these came.
func wantDid(t *testing.T, did map[string]int, least int, whats string) {
	t.Helper()
	for _, what := range strings.Split(whats, ", ") {
		if did[what] < least {
			t.Errorf("%s: %d", what, did[what])
		}
	}
}

// P17.2 to P17.6: images that are drawn, with threads that go on as is drawn, by a machine of which functions get faster code now and then, and by an ordinary one: at each stop everything is the same.
func TestDrawnImages(t *testing.T) {
	d := &drawer{Rand: rand.New(rand.NewSource(17))}
	did := map[string]int{}
	taken := 0
	for n := range 5000 {
		im := d.image()
		for range n % 4 {
			d.spoil(&im)
		}
		if _, _, e := verify.Check(im); e != api.OK {
			if n%4 == 0 {
				t.Fatalf("%+v: %d", im, e)
			}
			continue
		}
		taken++
		newRace(t, d, im, []int{1 + d.Intn(60), 200, 400}[d.Intn(3)], []int{1 + d.Intn(6), 20, 20, 20}[d.Intn(4)], n%8 < 4, did).run(150)
	}
	if taken < 1500 {
		t.Error(taken)
	}
	wantDid(t, did, 200, "int, atom, str, prim, pop, load, store, box, loadcell, storecell, loadcap, storecap, loadglobal, storeglobal, list, rec, fun, bin, not, neg, jump, false, keepfalse, keeptrue, loop, call, spawn, return, throw, index, setindex, field, setfield")
	wantDid(t, did, 300, "stop 1, stop 2, stop 3, stop 4, stop 5, stop 6, tier 0, tier 7, ended, left: goes on, fast change 1, fast change 2, fast change 3, fast change 4")
	wantDid(t, did, 3000, "entered, left: thrown")
}

// P17.2 to P17.6: programs by text, of which functions count on globals that are written now and then, each with many ways in which its threads go on.
func TestPrograms(t *testing.T) {
	d := &drawer{Rand: rand.New(rand.NewSource(18))}
	did := map[string]int{}
	globals := "var a = 1; var b = 1; var c = 1; var d = 1; fn set(i, v) { if i == 0 { a = v; } else if i == 1 { b = v; } else if i == 2 { c = v; } else { d = v; } return v; } "
	for _, text := range []string{
		"fn fib(n) { if n < 2 { return n; } return fib(n - 1) + fib(n - 2); } fn two(n) { return [fib(n), fib(n + 1)]; } while true { try { print(two(3)); } catch e { print(e); } }",
		globals + "fn sum(n) { var s = a + b; s = s + more(n); return s + c + d; } fn more(n) { if n > 0 { return sum(n - 1) + a; } set(rand(4), rand(2)); return b; } while true { try { print(sum(rand(3))); } catch e { print(e); } }",
		globals + "fn leaf() { set(now(), a); return c; } fn mid(n) { try { return leaf() / n + b; } catch e { set(rand(4), 1); throw [e, a]; } } fn top(n) { var i = 0; while i < 3 { i = i + 1; try { mid(n - i); } catch e { print(e); } d; } return i; } spawn top(2); while true { top(2); }",
		globals + "fn down(n) { if n == 0 { return a; } return down(n - 1) + b - c; } fn all() { var l = []; while len(l) < 4 { push(l, down(len(l))); yield(); } return l; } spawn all(); spawn all(); while true { all(); set(rand(4), rand(3)); }",
		"fn f(a, b) { return a and b or g(a); } fn g(a) { if not a { return nil; } else { var x = [a, f(a, -1)]; x[0] = x[1] == 1; return x[0]; } } while true { f(1, 2); f(nil, 2); f(1, false); f(true, nil); try { f(f, g); } catch e { g = nil; } }",
		"fn each(l, n) { var i = 0; while i < n { l[i] = twice(l[i]); i = i + 1; } return l; } fn twice(x) { return -(-x - x); } while true { each([1, 2], 2); each([1, cx(1, 2), 3], 3); try { each([1], 2); } catch e { print(e); } try { each([nil], 1); } catch e { } }",
		globals + "fn up(x) { var f = fn (y) { x = x + y * a; return x; }; var g = {f: f, n: count(x)}; g.n = g.f; return f(one()) + count(b); } fn one() { return 1; } fn count(n) { while n > 0 { n = n - one(); if n == 3 { continue; } if zero() { break; } } return n; } fn zero() { return d == 0; } while true { up(2); up(count(5)); spawn count(2); set(rand(4), 2); set(0, 1); }",
		"var l = []; fn deep(x) { var y = x; return fn (n) { y = y + n; var h = fn () { x = x + 1; return fn () { y = y - x; return y; }; }; push(l, h()); return h; }; } fn all(n) { var g = deep(n); g(1)()(); g(2); return l[len(l) - 1]() + l[0](); } spawn all(3); while true { all(rand(5)); }",
		"fn odd(n) { if n == 0 { return false; } return even(n - 1); } fn even(n) { if n == 0 { return true; } return odd(n - 1); } fn ask(n) { return (not odd(n)) == even(n); } while true { ask(5); ask(2); try { ask(nil); } catch e { throw e; } }",
	} {
		im := imageOfText(t, text)
		for n := range 200 {
			newRace(t, d, im, []int{20, 300}[d.Intn(2)], []int{1 + d.Intn(8), 100}[d.Intn(2)], n%2 == 0, did).run(200)
		}
	}
	wantDid(t, did, 100, "left: returned into, left: goes on, left: thrown, ended, stop 4, stop 5, stop 6, tier 0")
}
