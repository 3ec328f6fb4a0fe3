package deps

import (
	"math"
	"slices"
	"testing"

	"jacquard/api"
)

func mustNew(t *testing.T, funs, globals int) *Deps {
	t.Helper()
	d, e := New(funs, globals)
	if e != api.OK || d == nil {
		t.Fatalf("New(%d, %d) = %v, %d", funs, globals, d, e)
	}
	return d
}

// on makes a list of pairs of a global and a value.
func on(pairs ...int) []api.Dep {
	var l []api.Dep
	for i := 0; i < len(pairs); i += 2 {
		l = append(l, api.Dep{Global: pairs[i], Val: api.Value(pairs[i+1])})
	}
	return l
}

func wantAdd(t *testing.T, d *Deps, f int, l []api.Dep, want int, wantE api.Errno) {
	t.Helper()
	if id, e := d.Add(f, l); id != want || e != wantE {
		t.Errorf("Add(%d, %v) = %d, %d, not %d, %d", f, l, id, e, want, wantE)
	}
}

func wantWrote(t *testing.T, d *Deps, g int, v api.Value, want ...int) {
	t.Helper()
	if l, e := d.Wrote(g, v); !slices.Equal(l, want) || e != api.OK {
		t.Errorf("Wrote(%d, %d) = %v, %d, not %v", g, v, l, e, want)
	}
}

func wantDrop(t *testing.T, d *Deps, id int, want api.Errno) {
	t.Helper()
	if e := d.Drop(id); e != want {
		t.Errorf("Drop(%d) = %d, not %d", id, e, want)
	}
}

// wantValid asks of all numbers from 0 to n - 1 whether they are those of valid versions.
func wantValid(t *testing.T, d *Deps, n int, want ...int) {
	t.Helper()
	var l []int
	for id := range n {
		if d.Valid(id) {
			l = append(l, id)
		}
	}
	if !slices.Equal(l, want) {
		t.Errorf("valid are %v, not %v", l, want)
	}
}

func wantOf(t *testing.T, d *Deps, f, want int, wantOk bool) {
	t.Helper()
	if id, ok := d.Of(f); id != want || ok != wantOk {
		t.Errorf("Of(%d) = %d, %v, not %d, %v", f, id, ok, want, wantOk)
	}
}

func wantVersions(t *testing.T, d *Deps, f, want int) {
	t.Helper()
	if n, e := d.Versions(f); n != want || e != api.OK {
		t.Errorf("Versions(%d) = %d, %d, not %d", f, n, e, want)
	}
}

func wantOn(t *testing.T, d *Deps, id int, want []api.Dep) {
	t.Helper()
	if l := d.On(id); !slices.Equal(l, want) {
		t.Errorf("On(%d) = %v, not %v", id, l, want)
	}
}

// look tells all that can be asked of a registry, so that two looks are the same just if nothing has changed.
func look(t *testing.T, d *Deps, funs int) []int {
	t.Helper()
	var l []int
	all := 0
	for f := range funs {
		n, e := d.Versions(f)
		id, ok := d.Of(f)
		l = append(l, n, int(e), id, truth(ok))
		all += n
	}
	for id := range all + 1 {
		l = append(l, -1, truth(d.Valid(id)))
		for _, x := range d.On(id) {
			l = append(l, x.Global, int(x.Val))
		}
	}
	return l
}

func truth(b bool) int {
	if b {
		return 1
	}
	return 0
}

// some is a registry of 4 functions and 3 globals: version 1 of function 0 and version 2 of function 2 are valid,
// version 0 of function 2 has ended, function 1 had none, function 3 had as many as may be.
func some(t *testing.T) *Deps {
	t.Helper()
	d := mustNew(t, 4, 3)
	wantAdd(t, d, 2, on(0, 4, 1, 8), 0, api.OK)
	wantAdd(t, d, 0, on(2, 12), 1, api.OK)
	wantDrop(t, d, 0, api.OK)
	wantAdd(t, d, 2, on(1, 8, 0, 4), 2, api.OK)
	for id := 3; id < 7; id++ {
		wantAdd(t, d, 3, nil, id, api.OK)
		wantDrop(t, d, id, api.OK)
	}
	wantValid(t, d, 8, 1, 2)
	return d
}

// numbersOfNone are those of no function, and of no global, in some.
var numbersOfNone = []int{math.MinInt, -1025, -4, -3, -2, -1, 4, 5, 1023, 1024, 1 << 16, 1 << 32, 1<<32 + 1, math.MaxInt}

// P15.1
func TestNew(t *testing.T) {
	low, high := math.MinInt, math.MaxInt
	for _, c := range []struct {
		funs, globals int
		want          api.Errno
	}{
		{1, 0, api.OK}, {1, 1, api.OK}, {2, 1, api.OK}, {7, 0, api.OK},
		{api.MaxFuns, 0, api.OK}, {1, api.MaxGlobals, api.OK}, {api.MaxFuns, api.MaxGlobals, api.OK},
		{0, 0, api.ErrArg}, {-1, 0, api.ErrArg}, {low, 1, api.ErrArg}, {0, api.MaxGlobals, api.ErrArg},
		{api.MaxFuns + 1, 0, api.ErrArg}, {high, 1, api.ErrArg},
		{1, -1, api.ErrArg}, {1, low, api.ErrArg}, {api.MaxFuns, -1, api.ErrArg},
		{1, api.MaxGlobals + 1, api.ErrArg}, {1, high, api.ErrArg}, {0, -1, api.ErrArg}, {high, high, api.ErrArg}, {low, low, api.ErrArg},
	} {
		d, e := New(c.funs, c.globals)
		if e != c.want || (d == nil) != (e != api.OK) {
			t.Errorf("New(%d, %d) = %v, %d, not %d", c.funs, c.globals, d, e, c.want)
		}
	}
}

// P15.1: no versions, and as many functions and globals as were asked for.
func TestNewIsEmpty(t *testing.T) {
	for _, c := range [][2]int{{1, 0}, {1, 1}, {3, 2}, {2, 3}, {api.MaxFuns, api.MaxGlobals}} {
		funs, globals := c[0], c[1]
		d := mustNew(t, funs, globals)
		for f := range funs {
			wantVersions(t, d, f, 0)
			wantOf(t, d, f, 0, false)
		}
		for g := range globals {
			wantWrote(t, d, g, 4)
		}
		wantValid(t, d, api.MaxFuns*api.MaxVersions+1)
		wantOn(t, d, 0, nil)
		wantDrop(t, d, 0, api.ErrArg)
		wantAdd(t, d, funs, nil, 0, api.ErrArg)
		wantAdd(t, d, funs-1, on(globals, 4), 0, api.ErrArg)
		if _, e := d.Versions(funs); e != api.ErrArg {
			t.Errorf("New(%d, %d) has a function more: %d", funs, globals, e)
		}
		if _, e := d.Wrote(globals, 4); e != api.ErrArg {
			t.Errorf("New(%d, %d) has a global more: %d", funs, globals, e)
		}
		if globals > 0 {
			wantAdd(t, d, funs-1, on(globals-1, 4), 0, api.OK)
		} else {
			wantAdd(t, d, funs-1, nil, 0, api.OK)
		}
	}
}

// P15.1: what is wrong with the others does not matter then.
func TestNilRegistry(t *testing.T) {
	var d *Deps
	for _, x := range append([]int{0, 1, 2, 3}, numbersOfNone...) {
		for _, l := range [][]api.Dep{nil, on(0, 4), on(x, 4), on(x, 4, x, 4)} {
			wantAdd(t, d, x, l, 0, api.ErrNil)
		}
		if l, e := d.Wrote(x, api.Value(x)); len(l) != 0 || e != api.ErrNil {
			t.Errorf("Wrote(%d, ..) = %v, %d", x, l, e)
		}
		wantDrop(t, d, x, api.ErrNil)
		wantOf(t, d, x, 0, false)
		if n, e := d.Versions(x); n != 0 || e != api.ErrNil {
			t.Errorf("Versions(%d) = %d, %d", x, n, e)
		}
		if d.Valid(x) || len(d.On(x)) != 0 {
			t.Errorf("version %d is there", x)
		}
	}
}

// P15.2, P15.3
func TestNoFunction(t *testing.T) {
	d := some(t)
	before := look(t, d, 4)
	for _, f := range numbersOfNone {
		wantAdd(t, d, f, nil, 0, api.ErrArg)
		wantAdd(t, d, f, on(0, 4), 0, api.ErrArg)
		wantAdd(t, d, f, on(0, 4, 0, 4), 0, api.ErrArg)
		wantOf(t, d, f, 0, false)
		if n, e := d.Versions(f); n != 0 || e != api.ErrArg {
			t.Errorf("Versions(%d) = %d, %d", f, n, e)
		}
	}
	if after := look(t, d, 4); !slices.Equal(before, after) {
		t.Errorf("changed:\n%v\n%v", before, after)
	}
}

// P15.2: wherever it stands in a list.
func TestNoGlobal(t *testing.T) {
	d := some(t)
	before := look(t, d, 4)
	for _, g := range append([]int{3}, numbersOfNone...) {
		for _, l := range [][]api.Dep{on(g, 4), on(g, 4, 0, 4), on(0, 4, g, 4), on(2, 4, 1, 4, 0, 4, g, 4), on(2, 4, g, 4, 0, 4), on(g, 4, g, 4)} {
			wantAdd(t, d, 1, l, 0, api.ErrArg)
		}
		for _, v := range []api.Value{0, 4, api.Nil, 99} {
			if l, e := d.Wrote(g, v); len(l) != 0 || e != api.ErrArg {
				t.Errorf("Wrote(%d, %d) = %v, %d", g, v, l, e)
			}
		}
	}
	if after := look(t, d, 4); !slices.Equal(before, after) {
		t.Errorf("changed:\n%v\n%v", before, after)
	}
}

// P15.2: the same value or another, side by side or far apart.
func TestGlobalTwice(t *testing.T) {
	d := some(t)
	before := look(t, d, 4)
	for _, l := range [][]api.Dep{on(0, 4, 0, 4), on(0, 4, 0, 8), on(2, 4, 2, 0), on(0, 4, 1, 4, 0, 4), on(0, 4, 1, 8, 2, 4, 2, 4),
		on(1, 4, 0, 4, 2, 4, 1, 8), on(2, 0, 1, 0, 0, 0, 2, 0), slices.Repeat(on(1, 1), 5000)} {
		wantAdd(t, d, 1, l, 0, api.ErrArg)
	}
	if after := look(t, d, 4); !slices.Equal(before, after) {
		t.Errorf("changed:\n%v\n%v", before, after)
	}
	all := mustNew(t, 1, api.MaxGlobals)
	var l []api.Dep
	for g := range api.MaxGlobals {
		l = append(l, api.Dep{Global: g, Val: 4})
	}
	for _, g := range []int{0, 1, 511, api.MaxGlobals - 1} {
		wantAdd(t, all, 0, append(slices.Clone(l), api.Dep{Global: g, Val: 4}), 0, api.ErrArg)
	}
	wantAdd(t, all, 0, l, 0, api.OK)
}

// P15.2, P15.3
func TestNoVersion(t *testing.T) {
	d := some(t)
	before := look(t, d, 4)
	for _, id := range []int{math.MinInt, -1 << 32, -8, -2, -1, 7, 8, 1024, 4096, 1 << 32, 1<<32 + 1, math.MaxInt} {
		wantDrop(t, d, id, api.ErrArg)
		wantOn(t, d, id, nil)
		if d.Valid(id) {
			t.Errorf("version %d is valid", id)
		}
	}
	if after := look(t, d, 4); !slices.Equal(before, after) {
		t.Errorf("changed:\n%v\n%v", before, after)
	}
}

// P15.2: ErrArg ahead of ErrTime ahead of ErrMany.
func TestFirstError(t *testing.T) {
	d := some(t)
	for range 2 { // function 2 has two versions more
		id, _ := d.Of(2)
		wantDrop(t, d, id, api.OK)
		if _, e := d.Add(2, nil); e != api.OK {
			t.Fatal(e)
		}
	}
	wantVersions(t, d, 2, api.MaxVersions)
	before := look(t, d, 4)
	for _, c := range []struct {
		f    int
		want api.Errno
	}{{0, api.ErrTime}, {2, api.ErrTime}, {3, api.ErrMany}} {
		for _, l := range [][]api.Dep{nil, on(0, 4), on(2, 4, 0, 4)} {
			wantAdd(t, d, c.f, l, 0, c.want)
		}
		for _, l := range [][]api.Dep{on(3, 4), on(-1, 4), on(0, 4, 0, 4), on(0, 4, 2, 4, 0, 8)} {
			wantAdd(t, d, c.f, l, 0, api.ErrArg)
		}
	}
	if after := look(t, d, 4); !slices.Equal(before, after) {
		t.Errorf("changed:\n%v\n%v", before, after)
	}
	wantDrop(t, d, 8, api.OK)
	wantAdd(t, d, 2, nil, 0, api.ErrMany)
}

// The chapter's example.
func TestExample(t *testing.T) {
	d := mustNew(t, 2, 1)
	wantAdd(t, d, 0, on(0, 20), 0, api.OK)
	wantWrote(t, d, 0, 20)
	wantValid(t, d, 2, 0)
	wantWrote(t, d, 0, 24, 0)
	wantValid(t, d, 2)
	wantAdd(t, d, 0, nil, 1, api.OK)
}
