package show

import (
	"testing"

	"jacquard/api"
	"jacquard/tag"
)

func (m maker) deep(name string, a, b api.Value, want bool, wantE api.Errno) {
	m.t.Helper()
	if got, e := Deep(m.h, a, b); got != want || e != wantE {
		m.t.Errorf("%s: %v, %d, not %v, %d", name, got, e, want, wantE)
	}
}

// both holds two against each other whichever stands first.
func (m maker) both(name string, a, b api.Value, want bool) {
	m.t.Helper()
	m.deep(name, a, b, want, api.OK)
	m.deep(name+", turned about", b, a, want, api.OK)
}

// P4.2: words and objects without parts are alike just if they are Equal.
func TestDeepWithoutParts(t *testing.T) {
	m := newMaker(t)
	l := m.zoo()
	l = append(l, m.noObjects()...)
	for i, a := range l {
		for j, b := range l {
			if got, e := Deep(m.h, a, b); got != (i == j) || e != api.OK {
				t.Errorf("Deep of %d (%#x) and %d (%#x): %v, %d", i, a, j, b, got, e)
			}
		}
	}
}

// P4.2
func TestDeepParts(t *testing.T) {
	m := newMaker(t)
	f, mon := m.fun(1), m.item(api.ObjMon, 1)
	s := func() api.Value { return m.str("s") }
	z := func() api.Value { return m.cplx(1, 2) }
	xy, yx := []string{"x", "y"}, []string{"y", "x"}
	for _, c := range []struct {
		name string
		a, b api.Value
		want bool
	}{
		{"no entries", m.arr(), m.arr(), true},
		{"entries", m.arr(4, s(), api.Nil, z(), f, mon, 3), m.arr(4, s(), api.Nil, z(), f, mon, 3), true},
		{"the first entry", m.arr(4, 8, 12), m.arr(0, 8, 12), false},
		{"the last entry", m.arr(4, 8, 12), m.arr(4, 8, 0), false},
		{"one entry more", m.arr(4, 8), m.arr(4, 8, 8), false},
		{"none and one", m.arr(), m.arr(4), false},
		{"entries in another order", m.arr(4, 8), m.arr(8, 4), false},
		{"arrays within", m.arr(m.arr(4), m.arr(m.arr())), m.arr(m.arr(4), m.arr(m.arr())), true},
		{"arrays within that differ", m.arr(m.arr(4), m.arr(m.arr())), m.arr(m.arr(4), m.arr(m.arr(0))), false},
		{"no fields", m.rec(nil), m.rec(nil), true},
		{"fields", m.rec(xy, s(), 4), m.rec(xy, s(), 4), true},
		{"fields in another order", m.rec(xy, s(), 4), m.rec(yx, 4, s()), true},
		{"keys in another order, values not", m.rec(xy, s(), 4), m.rec(yx, s(), 4), false},
		{"the first field", m.rec(xy, 0, 4), m.rec(xy, 8, 4), false},
		{"the last field", m.rec(xy, 0, 4), m.rec(yx, 8, 0), false},
		{"one field more", m.rec([]string{"x"}, 4), m.rec(xy, 4, 4), false},
		{"one field more, ahead", m.rec([]string{"y"}, 4), m.rec(xy, 4, 4), false},
		{"another key", m.rec(xy, 4, 4), m.rec([]string{"x", "z"}, 4, 4), false},
		{"an empty key", m.rec([]string{""}, 4), m.rec([]string{"x"}, 4), false},
		{"an empty key in both", m.rec([]string{"", "x"}, 4, 8), m.rec([]string{"x", ""}, 8, 4), true},
		{"cells", m.cell(s()), m.cell(s()), true},
		{"cells that differ", m.cell(4), m.cell(8), false},
		{"cells within", m.cell(m.cell(m.rec(xy, z(), m.arr(s())))), m.cell(m.cell(m.rec(yx, m.arr(s()), z()))), true},
		{"cells within that differ", m.cell(m.cell(m.arr(4))), m.cell(m.cell(m.arr(8))), false},
		{"an array and a record", m.arr(), m.rec(nil), false},
		{"an array and a cell", m.arr(4), m.cell(4), false},
		{"a record and a cell", m.rec([]string{"x"}, 4), m.cell(4), false},
		{"a cell and what is in it", m.cell(4), 4, false},
		{"an array and a string", m.arr(tag.Int(97)), m.str("a"), false},
		{"functions", m.arr(m.fun(1)), m.arr(m.fun(1)), false},
		{"functions that took the same along", m.fun(1, 4), m.fun(1, 4), false},
		{"monitors", m.cell(m.item(api.ObjMon, 1)), m.cell(m.item(api.ObjMon, 1)), false},
		{"threads", m.item(api.ObjThr, 1), m.item(api.ObjThr, 1), false},
		{"strings within that differ", m.arr(m.str("ab")), m.arr(m.str("ac")), false},
		{"complex numbers within that differ", m.arr(m.cplx(0, 0)), m.arr(m.cplx(0, 1<<63)), false},
	} {
		m.both(c.name, c.a, c.b, c.want)
		m.deep(c.name+", the first and itself", c.a, c.a, true, api.OK)
	}
}

// ring makes n cells, each in the one ahead of it, and the first one in the last.
func (m maker) ring(n int) api.Value {
	m.t.Helper()
	first := m.cell(api.Nil)
	last := first
	for range n - 1 {
		last = m.cell(last)
	}
	m.set(first, 0, last)
	return last
}

// P4.2: what goes round, through itself and through others.
func TestDeepRound(t *testing.T) {
	m := newMaker(t)
	self, other := m.arr(0), m.arr(0)
	m.set(self, 0, self)
	m.set(other, 0, other)
	m.both("arrays in themselves", self, other, true)
	l1 := m.arr(0)
	l2 := m.arr(l1)
	m.set(l1, 0, l2)
	m.both("one array, and two through one another", self, l1, true)
	m.both("two through one another", l1, l2, true)
	m.both("one round, and one that ends", self, m.arr(m.arr(m.arr(0))), false)
	m.both("one that begins ahead of the round", self, m.arr(m.arr(self)), true)

	r1 := m.rec([]string{"me", "n"}, 0, 4)
	m.put(r1, "me", r1)
	r2 := m.rec([]string{"n", "me"}, 4, r1)
	r3 := m.rec([]string{"me", "n"}, r2, 4)
	m.both("records", r1, r3, true)
	m.put(r2, "n", 8)
	m.both("records that differ behind the round", r1, r3, false)
	m.put(r2, "n", 4)
	m.put(r2, "me", r3)
	m.both("records through one another", r1, r2, true)

	m.both("rings of cells", m.ring(4), m.ring(6), true)
	open := m.cell(m.cell(m.cell(4)))
	m.both("a ring and a row of cells", m.ring(3), open, false)
	m.both("a ring of cells, and an array in itself", m.ring(1), self, false)

	mixed := func() api.Value {
		a := m.arr(0, 4)
		r := m.rec([]string{"a"}, a)
		m.set(a, 0, m.cell(r))
		return a
	}
	a, b := mixed(), mixed()
	m.both("through all kinds", a, b, true)
	m.set(b, 1, 8)
	m.both("through all kinds, with a difference behind", a, b, false)
}

// wide is two arrays whose entries, one by one, are pairs of arrays that are alike and not Equal, each pair another
// one: with the two themselves n + 1 pairs are met.
func (m maker) wide(n int) (x, y []api.Value) {
	m.t.Helper()
	const side = 257
	left, right := make([]api.Value, side), make([]api.Value, side)
	for i := range side {
		left[i], right[i] = m.arr(), m.arr()
	}
	for i := range n {
		x = append(x, left[i/side])
		y = append(y, right[i%side])
	}
	return x, y
}

// P4.2: MaxPairs pairs, and one more.
func TestDeepManyPairs(t *testing.T) {
	m := newMaker(t)
	x, y := m.wide(api.MaxPairs)
	most := api.MaxPairs - 1
	m.deep("MaxPairs", m.arr(x[:most]...), m.arr(y[:most]...), true, api.OK)
	m.deep("one more", m.arr(x...), m.arr(y...), false, api.ErrMany)
	m.deep("far below", m.arr(x[:300]...), m.arr(y[:300]...), true, api.OK)
	m.deep("one more, and itself", m.arr(x...), m.arr(x...), true, api.OK)
}

// tail hangs n cells about a value.
func (m maker) tail(n int, v api.Value) api.Value {
	m.t.Helper()
	for range n {
		v = m.cell(v)
	}
	return v
}

// P4.2: two rings of 255 and 257 cells meet in 65535 pairs before the first one comes again.
func TestDeepManyPairsRound(t *testing.T) {
	m := newMaker(t)
	a, b := m.ring(255), m.ring(257)
	m.deep("the rings", a, b, true, api.OK)
	m.deep("MaxPairs", m.tail(1, a), m.tail(1, b), true, api.OK)
	m.deep("one more", m.tail(2, a), m.tail(2, b), false, api.ErrMany)
	m.deep("one more of arrays", m.tail(1, m.arr(a)), m.tail(1, m.arr(b)), false, api.ErrMany)
	x := []string{"x"}
	m.deep("MaxPairs with records", m.rec(x, a), m.rec(x, b), true, api.OK)
	m.deep("one more of records", m.tail(1, m.rec(x, a)), m.tail(1, m.rec(x, b)), false, api.ErrMany)
}

// P4.2: what is alike, and is counted once, or not at all.
func TestDeepWhatCounts(t *testing.T) {
	m := newMaker(t)
	x, y := m.wide(api.MaxPairs - 2)
	hold := func(name string, a, b api.Value, want bool, wantE api.Errno) {
		m.t.Helper()
		m.deep(name, m.arr(append(x, a, b)...), m.arr(append(y, b, a)...), want, wantE)
	}
	// With the outer arrays there are MaxPairs - 1 pairs; each time two follow, (a, b) and (b, a).
	hold("a pair in both orders is two", m.arr(), m.arr(), false, api.ErrMany)
	hold("a pair that was met, and the same turned about", x[0], y[0], true, api.OK)
	hold("the same object", x[0], x[0], true, api.OK)
	hold("strings", m.str("s"), m.str("s"), true, api.OK)
	hold("complex numbers", m.cplx(1, 2), m.cplx(1, 2), true, api.OK)
	hold("numbers", 4, 4, true, api.OK)
	// Two pairs about them, MaxPairs - 3 within, the last one: MaxPairs.
	a, b := m.arr(x[:api.MaxPairs-3]...), m.arr(y[:api.MaxPairs-3]...)
	m.deep("pairs met again are one each", m.arr(a, x[0], x[9], a, m.arr()), m.arr(b, y[0], y[9], b, m.arr()), true, api.OK)
	a, b = m.arr(x...), m.arr(y...)
	m.deep("pairs met again, and one more", m.arr(a, x[0], a, m.arr()), m.arr(b, y[0], b, m.arr()), false, api.ErrMany)
}

// P4.2: a difference that is met ahead of the bound, or behind it.
func TestDeepDifferenceAndBound(t *testing.T) {
	m := newMaker(t)
	x, y := m.wide(api.MaxPairs - 1)
	// With the outer arrays there are MaxPairs pairs.
	hold := func(name string, a, b api.Value, wantE api.Errno) {
		m.t.Helper()
		m.deep(name, m.arr(append(x, a)...), m.arr(append(y, b)...), false, wantE)
		x[0], a = a, x[0]
		y[0], b = b, y[0]
		m.deep(name+", first of all", m.arr(append(x, a)...), m.arr(append(y, b)...), false, api.OK)
		x[0], y[0] = a, b
	}
	hold("numbers", 4, 8, api.OK)
	hold("strings", m.str("a"), m.str("b"), api.OK)
	hold("functions", m.fun(1), m.fun(1), api.OK)
	hold("monitors", m.item(api.ObjMon, 1), m.item(api.ObjMon, 1), api.OK)
	hold("complex numbers", m.cplx(1, 2), m.cplx(2, 1), api.OK)
	hold("an array and a record", m.arr(), m.rec(nil), api.OK)
	hold("an array and no object", m.arr(), api.Nil, api.OK)
	// Two arrays are met, and are one pair more, ahead of what is asked about them.
	hold("arrays", m.arr(4), m.arr(8), api.ErrMany)
	hold("arrays, one longer", m.arr(), m.arr(4), api.ErrMany)
	hold("records of other keys", m.rec([]string{"x"}, 4), m.rec([]string{"y"}, 4), api.ErrMany)
	hold("cells", m.cell(4), m.cell(8), api.ErrMany)
}

// P4.2: one by one from the first on, each to its end; fields in the order of the first record.
func TestDeepOrder(t *testing.T) {
	m := newMaker(t)
	x, y := m.wide(api.MaxPairs)
	a, b := m.arr(x...), m.arr(y...)
	m.deep("entries, many first", m.arr(a, 4), m.arr(b, 8), false, api.ErrMany)
	m.deep("entries, a difference first", m.arr(4, a), m.arr(8, b), false, api.OK)
	m.deep("entries, a difference within first", m.arr(m.cell(m.cell(4)), a), m.arr(m.cell(m.cell(8)), b), false, api.OK)
	m.deep("as many entries are asked for first", m.arr(a), m.arr(b, 4), false, api.OK)
	many, one := []string{"many", "one"}, []string{"one", "many"}
	m.deep("fields, many first", m.rec(many, a, 4), m.rec(one, 8, b), false, api.ErrMany)
	m.deep("fields, a difference first", m.rec(one, 4, a), m.rec(many, b, 8), false, api.OK)
	m.deep("the same keys are asked for first", m.rec(many, a, 4), m.rec([]string{"many", "two"}, b, 4), false, api.OK)
	m.deep("as many keys are asked for first", m.rec([]string{"many"}, a), m.rec(many, b, 4), false, api.OK)
}

// P4.2: two rows of cells that fill the heap, deep in one another.
func TestDeepNested(t *testing.T) {
	m := newMaker(t)
	const n = api.MaxObjects / 2
	a, b := m.tail(n-1, m.arr(4)), m.tail(n-1, m.arr(8))
	m.both("a difference at the very end", a, b, false)
	m.both("one row longer", a, m.inside(a), false)
	i, _ := tag.Index(b)
	inner, _ := tag.Ref(i - (n - 1))
	m.set(inner, 0, 4)
	m.both("alike to the very end", a, b, true)
}

// inside is what is in a cell.
func (m maker) inside(v api.Value) api.Value {
	m.t.Helper()
	return m.ok(m.h.At(v, 0))
}

// The same call tells the same again: nothing is kept of the pairs that were met.
func TestDeepAgain(t *testing.T) {
	m := newMaker(t)
	a, b := m.arr(m.arr(4), 8), m.arr(m.arr(4), 12)
	for range 3 {
		m.deep("that differ", a, b, false, api.OK)
	}
	m.set(b, 1, 8)
	m.deep("no longer", a, b, true, api.OK)
	m.set(m.inside(b), 0, 8)
	m.deep("again", a, b, false, api.OK)
}
