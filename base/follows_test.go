package base

import (
	"fmt"
	"math/rand"
	"slices"
	"strings"
	"testing"

	"jacquard/api"
	"jacquard/gen"
	"jacquard/heap"
	"jacquard/parse"
	"jacquard/tag"
	"jacquard/verify"
)

// raw is an object as it is, with references by number.
func raw(h *heap.Heap, v api.Value) string {
	switch h.Kind(v) {
	case api.ObjStr:
		b, _ := h.Bytes(v)
		return fmt.Sprintf("%q", b)
	case api.ObjArr, api.ObjCell:
		n, e := h.Len(v)
		if e != api.OK {
			n = 1
		}
		text := fmt.Sprint("row ", h.Kind(v))
		for i := range n {
			x, _ := h.At(v, i)
			text += fmt.Sprint(" ", x)
		}
		return text
	case api.ObjRec:
		text := "rec"
		keys, _ := h.Keys(v)
		for _, k := range keys {
			x, _ := h.Field(v, k)
			text += fmt.Sprint(" ", k, " ", x)
		}
		return text
	case api.ObjFun:
		f, cells, _ := h.FunOf(v)
		return fmt.Sprint("fun ", f, cells)
	case api.ObjCplx:
		re, im, _ := h.CplxOf(v)
		return fmt.Sprint("cplx ", re, " ", im)
	}
	n, _ := h.ItemOf(v)
	return fmt.Sprint("item ", h.Kind(v), " ", n)
}

func rawAll(h *heap.Heap) string {
	var b strings.Builder
	for i := range h.Count() {
		v, _ := tag.Ref(i)
		b.WriteString(raw(h, v))
		b.WriteString("; ")
	}
	return b.String()
}

// pair is a thread of a machine and the same one of a model.
type pair struct {
	x *Thread
	s *stroll
}

// race runs an image by a machine and by a model, and holds all that can be told against each other.
type race struct {
	t       *testing.T
	r       *rand.Rand
	im      api.Image
	heights [][]int
	m       *Machine
	witness *witness // nil: nobody oversees the machine
	model   *model
	pairs   []pair
	came    map[string]int
}

func newRace(t *testing.T, r *rand.Rand, im api.Image, most, depth int, came map[string]int) *race {
	t.Helper()
	c := &race{t: t, r: r, im: im, m: machineOf(t, im, most, depth), model: newModel(im, most, depth), came: came}
	if r.Intn(2) == 0 {
		c.witness = &witness{}
		c.m, _ = NewUnder(im, most, depth, c.witness)
	}
	for f := range im.Funs {
		h, e := verify.Heights(im, f)
		if e != api.OK {
			t.Fatal(e)
		}
		c.heights = append(c.heights, h)
	}
	return c
}

func (c *race) fail(what string, a, b any) {
	c.t.Helper()
	c.t.Fatalf("%+v\n%s:\n%v, not\n%v", c.im, what, a, b)
}

// check holds everything against each other.
func (c *race) check() {
	c.t.Helper()
	if a, b := rawAll(c.m.Heap()), rawAll(c.model.h); a != b {
		c.fail("objects", a, b)
	}
	for i, want := range c.model.globals {
		if v, e := c.m.Global(i); v != want || e != api.OK {
			c.fail("globals", v, want)
		}
	}
	if _, e := c.m.Global(len(c.model.globals)); e != api.ErrArg {
		c.fail("globals", e, api.ErrArg)
	}
	var out []string
	for _, text := range c.m.Out() {
		out = append(out, string(text))
	}
	if !slices.Equal(out, c.model.texts) {
		c.fail("texts", out, c.model.texts)
	}
	if c.witness != nil && !slices.Equal(c.witness.told, c.model.told) {
		c.fail("told", c.witness.told, c.model.told)
	}
	for _, p := range c.pairs {
		if p.x.Waits() != p.s.waits || p.x.Ended() != p.s.ended {
			c.fail("waits, ended", []bool{p.x.Waits(), p.x.Ended()}, []bool{p.s.waits, p.s.ended})
		}
		c.checkCalls(p)
	}
}

func (c *race) checkCalls(p pair) {
	c.t.Helper()
	var want []api.View
	for _, v := range p.s.calls {
		want = append(want, *v)
	}
	views := p.x.Calls()
	if a, b := plainViews(views), plainViews(want); a != b {
		c.fail("calls", a, b)
	}
	for i, v := range views {
		high := len(v.Stack)
		if i < len(views)-1 || p.x.Waits() {
			high++
		}
		if v.At >= len(c.heights[v.Fun]) || high != c.heights[v.Fun][v.At] {
			c.fail("height", v, c.heights[v.Fun])
		}
	}
	c.came[fmt.Sprint("calls ", min(len(views), 5))]++
}

func (c *race) stopped(p pair, a, b api.Stop) {
	c.t.Helper()
	if !sameStop(a, b) {
		c.fail("stop", a, b)
	}
	c.check()
	c.came[[]string{"goes on", "safe", "prim", "spawn", "done", "thrown", "dead"}[a.Kind]]++
	if a.Kind >= api.StopThrown {
		c.came[told(c.m.Heap(), a)]++
	}
}

func (c *race) start(l []api.Value) int {
	c.t.Helper()
	x, a := c.m.Spawn(l)
	s, b := c.model.spawn(l)
	if a != b || (x == nil) != (s == nil) {
		c.fail("spawn", a, b)
	}
	c.came[fmt.Sprint("spawned ", a)]++
	if x != nil {
		c.pairs = append(c.pairs, pair{x, s})
	}
	c.check()
	return a
}

// drawn is a value, or, now and then, a word that is none.
func (c *race) drawn() api.Value {
	if n := c.m.Heap().Count(); n > 0 && c.r.Intn(2) == 0 {
		v, _ := tag.Ref(c.r.Intn(n + n/8))
		return v
	}
	return []api.Value{api.Nil, api.True, tag.Int(c.r.Intn(5)), 3, api.Value(3 + 4*c.r.Intn(40)), 13}[c.r.Intn(6)]
}

// called is something to be spawned: most often a function, if one of the first few objects that are drawn is one, with as many values as it takes.
func (c *race) called() []api.Value {
	l := []api.Value{c.drawn(), c.drawn(), c.drawn()}
	for i := range l {
		for !c.m.Heap().Good(l[i]) { // what comes of words that are no values is open
			l[i] = c.drawn()
		}
	}
	n := c.r.Intn(4)
	for range 9 {
		if f, _, ok := c.model.function(l[0]); ok && c.r.Intn(8) > 0 {
			n = 1 + c.im.Funs[f].Params
			break
		}
		l[0] = c.drawn()
	}
	return l[:n]
}

// hand gives a thread something, or a fault; or tries to.
func (c *race) hand(p pair) {
	c.t.Helper()
	if len(c.pairs) < 4 && c.r.Intn(2) == 0 && p.s.waits && p.s.last.Kind == api.StopSpawn {
		c.start(p.s.last.Args)
	}
	if c.r.Intn(4) > 0 {
		v := c.drawn()
		if a, b := c.m.Resume(p.x, v), p.s.resume(v); a != b {
			c.fail("resume", a, b)
		} else {
			c.came[fmt.Sprint("resumed ", a)]++
		}
		c.check()
		return
	}
	f := c.r.Intn(10)
	if c.r.Intn(12) == 0 {
		f = 99 + c.r.Intn(5)
	}
	a, e := c.m.Fault(p.x, f)
	b, want := p.s.fault(f)
	if e != want {
		c.fail("fault", e, want)
	}
	c.came[fmt.Sprint("faulted ", e)]++
	c.stopped(p, a, b)
}

// others are made of what whoever has the heap may put there.
func (c *race) others() {
	for range c.r.Intn(4) {
		f := c.r.Intn(len(c.im.Funs) + 1)
		var cells []api.Value
		for range c.r.Intn(3) {
			cells = append(cells, []api.Value{api.Nil, tag.Int(1), 2}[c.r.Intn(2+min(1, c.m.Heap().Count()))])
		}
		n := c.r.Intn(5)
		for _, h := range []*heap.Heap{c.m.Heap(), c.model.h} {
			if n == 0 {
				h.Item(api.ObjBox, f)
			} else if n == 1 {
				h.Cell(tag.Int(f))
			} else {
				h.Fun(f, cells)
			}
		}
	}
}

func (c *race) run(long int) {
	c.t.Helper()
	defer func() {
		for _, p := range c.pairs {
			p.s.leave()
		}
	}()
	c.pairs = append(c.pairs, pair{c.m.Main(), c.model.main()})
	c.check()
	for range long {
		p := c.pairs[c.r.Intn(len(c.pairs))]
		if p.s.ended && c.r.Intn(8) > 0 {
			continue
		}
		switch n := c.r.Intn(20); {
		case p.s.waits && n > 3 || n == 0:
			c.hand(p)
		case n < 3 && len(c.pairs) < 5:
			c.start(c.called())
		default:
			a, b := c.m.Segment(p.x), p.s.segment()
			c.stopped(p, a, b)
		}
	}
	if len(c.pairs) > 1 {
		c.came["threads"]++
	}
	c.came["texts"] += len(c.model.texts)
}

// P13.3 to P13.6: images that are drawn, with threads that go on as is drawn, what they are handed being drawn, too, and heaps and depths that may not do.
func TestDrawnImages(t *testing.T) {
	d := &drawer{Rand: rand.New(rand.NewSource(13))}
	came, done := map[string]int{}, map[string]int{}
	taken := 0
	for n := range 12000 {
		im := d.image()
		for range n % 3 {
			d.spoil(&im)
		}
		if _, _, e := verify.Check(im); e != api.OK {
			if n%3 == 0 {
				t.Fatalf("%+v: %d", im, e)
			}
			continue
		}
		taken++
		c := newRace(t, d.Rand, im, []int{1 + d.Intn(5), 1 + d.Intn(20), 60, 200}[d.Intn(4)], []int{1 + d.Intn(4), 20}[d.Intn(2)], came)
		c.others()
		c.run(120)
		for name, many := range c.model.done {
			done[name] += many
		}
	}
	if taken < 6000 || len(done) != api.Ops {
		t.Error(taken, done)
	}
	for name, many := range done {
		if many < 300 {
			t.Errorf("%s: %d", name, many)
		}
	}
	for _, what := range []string{"safe", "prim", "spawn", "done", "thrown", "dead", "goes on", "threads", "texts", "dead heap", "dead depth", "dead threads",
		`thrown "type"`, `thrown "zero"`, `thrown "range"`, `thrown "field"`, `thrown "call"`, `thrown "args"`, `thrown "state"`,
		"spawned 0", "spawned 6", "spawned 7", "spawned 100", "resumed 0", "resumed 1", "resumed 7", "faulted 0", "faulted 1", "faulted 7",
		"calls 0", "calls 1", "calls 2", "calls 3", "calls 4", "calls 5"} {
		if came[what] < 20 {
			t.Errorf("%s: %d", what, came[what])
		}
	}
}

// P13.6: programs by text, each with many ways in which its threads go on.
func TestPrograms(t *testing.T) {
	came := map[string]int{}
	r := rand.New(rand.NewSource(14))
	for _, text := range []string{
		"fn fib(n) { if n < 2 { return n; } return fib(n - 1) + fib(n - 2); } print(fib(5));",
		"var l = []; fn f(n) { push(l, n); yield(); if n > 0 { spawn f(n - 1); } return l; } f(3); print(l);",
		"fn f(a) { return fn (b) { a = a + b; return a; }; } var g = f(1); try { print(g(rand(2))); g(nil); } catch e { print(e); }",
		"fn f(n) { try { if n == 0 { throw [n]; } f(n - 1); } catch e { push(e, n); throw e; } } try { f(4); } catch e { print(e); }",
		"{ var i = 0; while true { i = i + 1; if i == 3 { continue; } if i > 6 { break; } try { print([i, i / (i - 5)]); } catch e { print(e); } } }",
		"fn down(n) { if n { return down(n - 1); } return [now(), self()]; } var x = {a: down(3)}; x.a[0] = x; print(x);",
	} {
		l, e, _ := parse.Parse([]byte(text))
		if e != api.OK {
			t.Fatal(text, e)
		}
		im, e, _ := gen.Compile(l)
		if e != api.OK {
			t.Fatal(text, e)
		}
		for range 100 {
			newRace(t, r, im, 1+r.Intn(60), 1+r.Intn(10), came).run(100)
		}
	}
	if came["done"] < 500 || came["thrown"] < 100 || came["texts"] < 500 {
		t.Error(came)
	}
}

// P13.6: each segment ends, of the longest code there may be, too; and going back is a stop, so that what never ends is many segments.
func TestLongSegments(t *testing.T) {
	c := api.Code{Slots: 1}
	for range (api.MaxCode - 2) / 4 {
		c.Code = append(c.Code, ops("load 0; not; store 0; jump 0")...)
		c.Code[len(c.Code)-1].A = len(c.Code)
	}
	c.Code = append(c.Code, ops("load 0; return")...)
	m := machineOf(t, imageOf(c), 1, 1)
	if got := told(m.Heap(), m.Segment(m.Main())); got != "done true" {
		t.Error(got)
	}
	m = compiled(t, "while true { }", 1, 1)
	x := m.Main()
	for range 10000 {
		if s := m.Segment(x); s.Kind != api.StopSafe {
			t.Fatal(s)
		}
	}
	im := imageOf(fun(0, 0, "int 1; throw; return")) // what is caught goes ahead, never back
	im.Funs[0].Tries = []api.Try{{From: 1, To: 2, Target: 2}}
	m = machineOf(t, im, 1, 1)
	if got := told(m.Heap(), m.Segment(m.Main())); got != "done 1" {
		t.Error(got)
	}
}

// P13.6: the highest stack there may be.
func TestHighStack(t *testing.T) {
	text := strings.Repeat("int 1; ", api.MaxStack-1) + "prim 14; call 0; pop; list 255; return"
	m := machineOf(t, imageOf(fun(0, 0, text)), 2, 1)
	x := m.Main()
	if s := m.Segment(x); s.Kind != api.StopPrim || len(x.Calls()[0].Stack) != api.MaxStack-1 {
		t.Error(s)
	}
	m.Resume(x, api.Nil)
	if n := len(x.Calls()[0].Stack); n != api.MaxStack {
		t.Error(n)
	}
	s := m.Segment(x)
	if n, _ := m.Heap().Len(s.Value); s.Kind != api.StopDone || n != 255 {
		t.Error(s, n)
	}
}
