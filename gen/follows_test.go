package gen

import (
	"fmt"
	"math/rand"
	"slices"
	"strings"
	"testing"

	"jacquard/api"
	"jacquard/heap"
	"jacquard/tag"
)

// raw is an object as it is, with references by number.
func raw(h *heap.Heap, v api.Value) string {
	switch h.Kind(v) {
	case api.ObjStr:
		b, _ := h.Bytes(v)
		return fmt.Sprintf("%q", b)
	case api.ObjArr:
		text := "arr"
		n, _ := h.Len(v)
		for i := range n {
			x, _ := h.At(v, i)
			text += fmt.Sprint(" ", x)
		}
		return text
	case api.ObjRec:
		text := "rec"
		keys, _ := h.Keys(v)
		for _, k := range keys {
			x, _ := h.Field(v, k)
			text += fmt.Sprint(" ", k, " ", x)
		}
		return text
	case api.ObjCell:
		x, _ := h.At(v, 0)
		return fmt.Sprint("cell ", x)
	case api.ObjFun:
		f, cells, _ := h.FunOf(v)
		return fmt.Sprint("fun ", f, cells)
	case api.ObjCplx:
		re, im, _ := h.CplxOf(v)
		return fmt.Sprint("cplx ", re, " ", im)
	}
	n, _ := h.ItemOf(v)
	return fmt.Sprint("item ", h.Kind(v), " ", n)
}

// state is all that a program's threads share.
func state(r running) string {
	h := r.objects()
	var b strings.Builder
	for i := range h.Count() {
		v, _ := tag.Ref(i)
		b.WriteString(raw(h, v))
		b.WriteString("; ")
	}
	fmt.Fprint(&b, r.world().vars, len(r.world().texts))
	return b.String()
}

// pair is a thread that runs both ways.
type pair struct {
	by    [2]thread
	waits api.Stop
	ended bool
}

// race runs a program both ways at once, segment by segment, and holds all that can be seen against each other.
type race struct {
	t     *testing.T
	r     *rand.Rand
	l     []api.Node
	by    [2]running
	pairs []*pair
	came  map[string]int
	long  int // how many segments at most
}

func (c *race) fail(what string, a, b any) {
	c.t.Helper()
	c.t.Fatalf("%s: %s: %v and %v", brief(c.l), what, a, b)
}

func (c *race) same(a, b api.Stop) api.Stop {
	c.t.Helper()
	if a.Kind != b.Kind || a.Prim != b.Prim || a.Value != b.Value || a.Fault != b.Fault || !slices.Equal(a.Args, b.Args) {
		c.fail("stops", a, b)
	}
	if x, y := state(c.by[0]), state(c.by[1]); x != y {
		c.fail("states", x, y)
	}
	if n := len(c.by[0].world().texts); n > 0 && c.by[0].world().texts[n-1] != c.by[1].world().texts[n-1] {
		c.fail("texts", c.by[0].world().texts, c.by[1].world().texts)
	}
	return a
}

func (c *race) start(l []api.Value) int {
	c.t.Helper()
	var p pair
	var faults [2]int
	for i, r := range c.by {
		p.by[i], faults[i] = r.start(l)
	}
	if faults[0] != faults[1] {
		c.fail("faults", faults[0], faults[1])
	}
	if faults[0] == 0 {
		c.pairs = append(c.pairs, &p)
	}
	return faults[0]
}

// note keeps a stop that ends a thread.
func (c *race) note(p *pair, s api.Stop) {
	switch s.Kind {
	case api.StopDone, api.StopThrown, api.StopDead:
		p.ended = true
	case api.StopPrim, api.StopSpawn:
		p.waits = s
	}
	c.came[[]string{"goes on", "safe", "prim", "spawn", "done", "thrown", "dead"}[s.Kind]]++
	if s.Kind == api.StopThrown {
		c.came["thrown "+look(c.by[0].objects(), s.Value)]++
	}
	if s.Kind == api.StopDead {
		c.came[fmt.Sprint("dead ", s.Fault)]++
	}
}

// hand gives a thread that waits something, or a fault.
func (c *race) hand(p *pair) {
	c.t.Helper()
	s := p.waits
	p.waits = api.Stop{}
	v := []api.Value{api.Nil, api.True, tag.Int(c.r.Intn(3)), tag.Int(c.r.Intn(3))}[c.r.Intn(4)]
	fault := 0
	switch {
	case s.Kind == api.StopSpawn:
		v, fault = c.spawn(s.Args)
	case c.r.Intn(8) == 0:
		fault = 1 + c.r.Intn(8)
	case c.r.Intn(200) == 0:
		fault = 100 + c.r.Intn(3)
	case s.Prim == api.PrimRand:
		v = s.Args[0]
	}
	if fault == 0 {
		p.by[0].resume(v)
		p.by[1].resume(v)
		return
	}
	a := p.by[0].fault(fault)
	c.note(p, c.same(a, p.by[1].fault(fault)))
}

func (c *race) spawn(l []api.Value) (api.Value, int) {
	c.t.Helper()
	if len(c.pairs) == 4 {
		return 0, api.FaultThreads
	}
	var v api.Value
	var e api.Errno
	for _, r := range c.by {
		v, e = r.objects().Item(api.ObjThr, len(c.pairs))
	}
	if e != api.OK {
		return 0, api.FaultHeap
	}
	return v, c.start(l)
}

func (c *race) run() {
	c.t.Helper()
	c.start(nil)
	for range c.long {
		var alive []*pair
		for _, p := range c.pairs {
			if !p.ended {
				alive = append(alive, p)
			}
		}
		if len(alive) == 0 {
			c.came["all ended"]++
			break
		}
		p := alive[c.r.Intn(len(alive))]
		if p.waits.Kind != 0 {
			c.hand(p)
			continue
		}
		a := p.by[0].segment()
		c.note(p, c.same(a, p.by[1].segment()))
	}
	for _, p := range c.pairs {
		p.by[1].leave()
	}
	if n := len(c.pairs); n > 1 {
		c.came["threads"]++
	}
	c.came["texts"] += len(c.by[0].world().texts)
}

// P12.6: programs that are drawn, with threads that go on as is drawn, what they are handed being drawn, too, and heaps and depths that may not do.
func TestRunsAreTheSame(t *testing.T) {
	d := &drawer{Rand: rand.New(rand.NewSource(126))}
	came := map[string]int{}
	kinds := map[int]int{}
	ops := map[int]int{}
	for n := range 12000 {
		l := d.program(2+n%5, []int{0, 1, 4}[n%3])
		c := &race{t: t, r: d.Rand, l: l, by: bothWays(t, l, 1+d.Intn(1+d.Intn(60)), 1+d.Intn(8)), came: came, long: 120}
		if n%2 == 0 {
			c.by = bothWays(t, l, 200, 12)
		}
		c.run()
		for _, n := range l {
			kinds[n.Kind]++
		}
		im, _, _ := Compile(l)
		for _, f := range im.Funs {
			for _, i := range f.Code {
				ops[i.Op]++
			}
		}
	}
	for _, what := range []string{"safe", "prim", "spawn", "done", "thrown", "dead", "goes on", "all ended", "threads", "texts", "dead 100", "dead 101",
		`thrown "type"`, `thrown "zero"`, `thrown "range"`, `thrown "field"`, `thrown "call"`, `thrown "args"`} {
		if came[what] < 50 {
			t.Errorf("%s: %d", what, came[what])
		}
	}
	for kind := api.NodeProg; kind <= api.NodeSpawn; kind++ {
		if kinds[kind] < 500 {
			t.Errorf("kind %d: %d", kind, kinds[kind])
		}
	}
	for op := range api.Ops {
		if ops[op] < 500 {
			t.Errorf("instruction %d: %d", op, ops[op])
		}
	}
}

// parts of a program that go on elsewhere, each as a statement's nodes.
func leaves() [][]api.Node {
	return [][]api.Node{
		{{Kind: api.NodeExpr, N: 1}, {Kind: api.NodeCall, N: 2}, {Kind: api.NodeName, Text: "print"}, {Kind: api.NodeInt}},
		{{Kind: api.NodeBreak}},
		{{Kind: api.NodeContinue}},
		{{Kind: api.NodeReturn}},
		{{Kind: api.NodeThrow, N: 1}, {Kind: api.NodeInt}},
	}
}

// about puts statements into a node that is made of a condition, if it asks for one, and of a Block for each.
func about(n api.Node, l ...[]api.Node) []api.Node {
	out := []api.Node{n}
	if n.Kind != api.NodeTry {
		out = append(out, api.Node{Kind: api.NodeCall, N: 1}, api.Node{Kind: api.NodeName, Text: "now"})
	}
	for _, x := range l {
		out = append(out, api.Node{Kind: api.NodeBlock, N: 1})
		out = append(out, x...)
	}
	return out
}

// deeper are the statements, and all that have one or two of them in a While, an If, a Try, a Block.
func deeper(l [][]api.Node) [][]api.Node {
	out := slices.Clone(l)
	for _, a := range l {
		out = append(out, about(api.Node{Kind: api.NodeWhile, N: 2}, a), about(api.Node{Kind: api.NodeIf, N: 2}, a))
		for _, b := range l {
			out = append(out, about(api.Node{Kind: api.NodeIf, N: 3}, a, b), about(api.Node{Kind: api.NodeTry, N: 2, Text: "e"}, a, b))
			out = append(out, slices.Concat([]api.Node{{Kind: api.NodeBlock, N: 2}}, a, b))
		}
	}
	return out
}

// inFunction is a program that calls a function with a loop about a statement, every number in it being another one.
func inFunction(s []api.Node) []api.Node {
	l := []api.Node{{Kind: api.NodeProg, N: 2}, {Kind: api.NodeFn, N: 1, Text: "f"}, {Kind: api.NodeBlock, N: 2}}
	l = append(l, about(api.Node{Kind: api.NodeWhile, N: 2}, s)...)
	l = append(l, leaves()[0]...)
	l = append(l, api.Node{Kind: api.NodeTry, N: 2, Text: "e"})
	l = append(l, api.Node{Kind: api.NodeBlock, N: 1}, api.Node{Kind: api.NodeExpr, N: 1}, api.Node{Kind: api.NodeCall, N: 1}, api.Node{Kind: api.NodeName, Text: "f"})
	l = append(l, api.Node{Kind: api.NodeBlock, N: 1}, api.Node{Kind: api.NodeExpr, N: 1}, api.Node{Kind: api.NodeCall, N: 2}, api.Node{Kind: api.NodeName, Text: "print"}, api.Node{Kind: api.NodeName, Text: "e"})
	for i := range l {
		l[i].Num = 0
		if l[i].Kind == api.NodeInt {
			l[i].Num = i
		}
	}
	return l
}

// P12.6: all ways to put a few statements that go on elsewhere into each other.
func TestWaysThrough(t *testing.T) {
	r := rand.New(rand.NewSource(127))
	came := map[string]int{}
	for _, s := range deeper(deeper(leaves())) {
		l := inFunction(s)
		c := &race{t: t, r: r, l: l, by: bothWays(t, l, 100, 4), came: came, long: 50}
		c.run()
	}
	if came["all ended"] < 10000 || came["goes on"] < 1000 || came["texts"] < 10000 {
		t.Error(came)
	}
}
