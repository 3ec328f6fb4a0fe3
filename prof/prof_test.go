package prof

import (
	"math"
	"slices"
	"testing"

	"jacquard/api"
)

func mustNew(t *testing.T, funs, globals int) *Prof {
	t.Helper()
	p, e := New(funs, globals)
	if e != api.OK || p == nil {
		t.Fatalf("New(%d, %d) = %v, %d", funs, globals, p, e)
	}
	return p
}

// well is for calls that must go well.
func well(t *testing.T, l ...api.Errno) {
	t.Helper()
	for i, e := range l {
		if e != api.OK {
			t.Fatalf("call %d: error %d", i, e)
		}
	}
}

// places are at both ends, and some between.
var places = []int{0, 1, 2, 5, 7, 255, 256, 4095, api.MaxCode - 2, api.MaxCode - 1}

// look tells all that can be asked of a profile, so that two looks are the same just if nothing has changed (but at other places).
func look(t *testing.T, p *Prof, funs, globals int) []int {
	t.Helper()
	var l []int
	for f := range funs {
		n, e := p.Heat(f)
		well(t, e)
		l = append(l, n)
		for _, at := range places {
			k, e := p.Kinds(f, at)
			well(t, e)
			l = append(l, k)
		}
	}
	for g := range globals {
		n, v, e := p.Writes(g)
		well(t, e)
		l = append(l, n, int(v))
	}
	for _, d := range p.Stable() {
		l = append(l, -1, d.Global, int(d.Val))
	}
	l = append(l, -2)
	return append(l, p.Hot(0)...)
}

// some is a profile of 3 functions and 3 globals in which something of everything was counted.
func some(t *testing.T) *Prof {
	t.Helper()
	p := mustNew(t, 3, 3)
	well(t, p.Begin(0), p.Begin(2), p.Loop(2), p.Loop(2), p.Pair(0, 0, 1, 2), p.Pair(2, api.MaxCode-1, 3, 3), p.Pair(2, 7, 0, 0),
		p.Wrote(1, api.True), p.Wrote(2, api.True), p.Wrote(2, api.Nil))
	return p
}

// P14.1
func TestNew(t *testing.T) {
	low, high := math.MinInt, math.MaxInt
	for _, c := range []struct {
		funs, globals int
		want          api.Errno
	}{
		{1, 0, api.OK}, {1, 1, api.OK}, {2, 1, api.OK}, {7, 0, api.OK},
		{api.MaxFuns, 0, api.OK}, {1, api.MaxGlobals, api.OK}, {api.MaxFuns, api.MaxGlobals, api.OK},
		{0, 0, api.ErrArg}, {-1, 0, api.ErrArg}, {low, 1, api.ErrArg}, {0, api.MaxGlobals, api.ErrArg},
		{api.MaxFuns + 1, 0, api.ErrArg}, {high, 1, api.ErrArg},
		{1, -1, api.ErrArg}, {1, low, api.ErrArg}, {api.MaxFuns, -1, api.ErrArg},
		{1, api.MaxGlobals + 1, api.ErrArg}, {1, high, api.ErrArg}, {0, -1, api.ErrArg}, {high, high, api.ErrArg}, {low, low, api.ErrArg},
	} {
		p, e := New(c.funs, c.globals)
		if e != c.want || (p == nil) != (e != api.OK) {
			t.Errorf("New(%d, %d) = %v, %d, not %d", c.funs, c.globals, p, e, c.want)
		}
	}
}

// P14.1: nothing was counted, and there are as many functions and globals as were asked for.
func TestNewIsEmpty(t *testing.T) {
	for _, c := range [][2]int{{1, 0}, {1, 1}, {3, 2}, {2, 3}, {api.MaxFuns, api.MaxGlobals}} {
		funs, globals := c[0], c[1]
		p := mustNew(t, funs, globals)
		l := look(t, p, funs, globals)
		want := append(make([]int, funs*(1+len(places))+globals*2), -2)
		if !slices.Equal(l, want) {
			t.Errorf("of New(%d, %d): %v", funs, globals, l)
		}
		if l := p.Hot(math.MinInt); len(l) != 0 {
			t.Errorf("hot in New(%d, %d): %v", funs, globals, l)
		}
		well(t, p.Begin(funs-1), p.Pair(funs-1, 0, 0, 0))
		if e := p.Begin(funs); e != api.ErrArg {
			t.Errorf("New(%d, %d) has a function more: %d", funs, globals, e)
		}
		if globals > 0 {
			well(t, p.Wrote(globals-1, 4))
		}
		if e := p.Wrote(globals, 4); e != api.ErrArg {
			t.Errorf("New(%d, %d) has a global more: %d", funs, globals, e)
		}
	}
}

// P14.1: what is wrong with the others does not matter then.
func TestNilProfile(t *testing.T) {
	var p *Prof
	for _, x := range []int{math.MinInt, -1, 0, 1, 4, api.MaxFuns, api.MaxCode, math.MaxInt} {
		for i, e := range []api.Errno{p.Begin(x), p.Loop(x), p.Pair(x, 0, 0, 0), p.Pair(0, x, 0, 0), p.Pair(0, 0, x, 0),
			p.Pair(0, 0, 0, x), p.Wrote(x, 0), p.Wrote(0, api.Value(x)), p.Cool(x)} {
			if e != api.ErrNil {
				t.Errorf("call %d with %d: %d", i, x, e)
			}
		}
		if n, e := p.Heat(x); n != 0 || e != api.ErrNil {
			t.Errorf("Heat(%d) = %d, %d", x, n, e)
		}
		if k, e := p.Kinds(x, 0); k != 0 || e != api.ErrNil {
			t.Errorf("Kinds(%d, 0) = %d, %d", x, k, e)
		}
		if k, e := p.Kinds(0, x); k != 0 || e != api.ErrNil {
			t.Errorf("Kinds(0, %d) = %d, %d", x, k, e)
		}
		if n, v, e := p.Writes(x); n != 0 || v != 0 || e != api.ErrNil {
			t.Errorf("Writes(%d) = %d, %d, %d", x, n, v, e)
		}
		if l := p.Hot(x); len(l) != 0 {
			t.Errorf("Hot(%d) = %v", x, l)
		}
	}
	if l := p.Stable(); len(l) != 0 {
		t.Errorf("Stable() = %v", l)
	}
}

// P14.1: what is none is not counted, and nothing is told of it.
func TestNoFunction(t *testing.T) {
	p := some(t)
	before := look(t, p, 3, 3)
	for _, f := range []int{math.MinInt, -1025, -3, -2, -1, 3, 4, 1023, 1024, 1 << 16, 1 << 32, 1<<32 + 1, math.MaxInt} {
		for i, e := range []api.Errno{p.Begin(f), p.Loop(f), p.Pair(f, 0, 0, 0), p.Pair(f, 7, 3, 1), p.Cool(f), p.Pair(f, -1, 4, 4)} {
			if e != api.ErrArg {
				t.Errorf("call %d of function %d: %d", i, f, e)
			}
		}
		if n, e := p.Heat(f); n != 0 || e != api.ErrArg {
			t.Errorf("Heat(%d) = %d, %d", f, n, e)
		}
		if k, e := p.Kinds(f, 0); k != 0 || e != api.ErrArg {
			t.Errorf("Kinds(%d, 0) = %d, %d", f, k, e)
		}
	}
	if after := look(t, p, 3, 3); !slices.Equal(before, after) {
		t.Errorf("changed:\n%v\n%v", before, after)
	}
}

// P14.1
func TestNoGlobal(t *testing.T) {
	p := some(t)
	before := look(t, p, 3, 3)
	for _, g := range []int{math.MinInt, -1025, -3, -1, 3, 4, 1023, 1024, 1 << 32, 1<<32 + 1, math.MaxInt} {
		if e := p.Wrote(g, 4); e != api.ErrArg {
			t.Errorf("Wrote(%d, 4) = %d", g, e)
		}
		if n, v, e := p.Writes(g); n != 0 || v != 0 || e != api.ErrArg {
			t.Errorf("Writes(%d) = %d, %d, %d", g, n, v, e)
		}
	}
	if after := look(t, p, 3, 3); !slices.Equal(before, after) {
		t.Errorf("changed:\n%v\n%v", before, after)
	}
	none := mustNew(t, 1, 0)
	if n, v, e := none.Writes(0); n != 0 || v != 0 || e != api.ErrArg {
		t.Errorf("without globals: Writes(0) = %d, %d, %d", n, v, e)
	}
	if e := none.Wrote(0, api.Nil); e != api.ErrArg || len(none.Stable()) != 0 {
		t.Errorf("without globals: Wrote(0, nil) = %d", e)
	}
}

// P14.1
func TestNoPlace(t *testing.T) {
	p := some(t)
	before := look(t, p, 3, 3)
	for _, at := range []int{math.MinInt, -api.MaxCode, -2, -1, api.MaxCode, api.MaxCode + 1, 2 * api.MaxCode, 1 << 32, math.MaxInt} {
		for f := range 3 {
			if e := p.Pair(f, at, 0, 0); e != api.ErrArg {
				t.Errorf("Pair(%d, %d, 0, 0) = %d", f, at, e)
			}
			if k, e := p.Kinds(f, at); k != 0 || e != api.ErrArg {
				t.Errorf("Kinds(%d, %d) = %d, %d", f, at, k, e)
			}
		}
	}
	if after := look(t, p, 3, 3); !slices.Equal(before, after) {
		t.Errorf("changed:\n%v\n%v", before, after)
	}
}

// P14.2: another kind.
func TestNoKind(t *testing.T) {
	p := some(t)
	before := look(t, p, 3, 3)
	for _, k := range []int{math.MinInt, -64, -4, -1, 4, 5, 8, 16, 63, 64, 1 << 32, math.MaxInt} {
		for i, e := range []api.Errno{p.Pair(0, 0, k, 0), p.Pair(0, 0, 0, k), p.Pair(0, 0, k, k), p.Pair(1, 1, k, 3), p.Pair(1, 1, 3, k)} {
			if e != api.ErrArg {
				t.Errorf("call %d with kind %d: %d", i, k, e)
			}
		}
	}
	if after := look(t, p, 3, 3); !slices.Equal(before, after) {
		t.Errorf("changed:\n%v\n%v", before, after)
	}
}

// The chapter's example.
func TestExample(t *testing.T) {
	p := mustNew(t, 2, 1)
	well(t, p.Begin(1), p.Loop(1), p.Begin(0))
	if l := p.Hot(1); !slices.Equal(l, []int{1, 0}) {
		t.Errorf("Hot(1) = %v", l)
	}
	well(t, p.Pair(0, 5, 0, 1))
	if k, e := p.Kinds(0, 5); k != 33 || e != api.OK {
		t.Errorf("Kinds(0, 5) = %d, %d", k, e)
	}
}
