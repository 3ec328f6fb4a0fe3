package show

import (
	"bytes"
	"math"
	"slices"
	"strconv"
	"testing"

	"jacquard/api"
	"jacquard/heap"
	"jacquard/tag"
)

// maker makes objects, and breaks the test off where that does not go well.
type maker struct {
	t *testing.T
	h *heap.Heap
}

func newMaker(t *testing.T) maker {
	t.Helper()
	h, e := heap.New(api.MaxObjects)
	if e != api.OK {
		t.Fatal(e)
	}
	return maker{t, h}
}

func (m maker) ok(v api.Value, e api.Errno) api.Value {
	m.t.Helper()
	if e != api.OK {
		m.t.Fatalf("not made: error %d", e)
	}
	return v
}

func (m maker) str(s string) api.Value {
	m.t.Helper()
	return m.ok(m.h.Str([]byte(s)))
}

func (m maker) arr(l ...api.Value) api.Value {
	m.t.Helper()
	return m.ok(m.h.Arr(l))
}

func (m maker) rec(keys []string, l ...api.Value) api.Value {
	m.t.Helper()
	return m.ok(m.h.Rec(keys, l))
}

func (m maker) cell(x api.Value) api.Value {
	m.t.Helper()
	return m.ok(m.h.Cell(x))
}

func (m maker) fun(f int, cells ...api.Value) api.Value {
	m.t.Helper()
	return m.ok(m.h.Fun(f, cells))
}

func (m maker) cplx(re, im uint64) api.Value {
	m.t.Helper()
	return m.ok(m.h.Cplx(re, im))
}

func (m maker) item(kind, n int) api.Value {
	m.t.Helper()
	return m.ok(m.h.Item(kind, n))
}

func (m maker) set(v api.Value, i int, x api.Value) {
	m.t.Helper()
	if e := m.h.Set(v, i, x); e != api.OK {
		m.t.Fatalf("not written: error %d", e)
	}
}

func (m maker) put(v api.Value, key string, x api.Value) {
	m.t.Helper()
	if e := m.h.Put(v, key, x); e != api.OK {
		m.t.Fatalf("not written: error %d", e)
	}
}

// noObjects are words that no object of the heap is known by: numbers, atoms, primitives, references that are not
// good, and words that are no values.
func (m maker) noObjects() []api.Value {
	count := api.Value(m.h.Count())
	return []api.Value{
		0, 4, tag.Int(-1), tag.Int(api.MaxInt), tag.Int(api.MinInt), api.Nil, api.False, api.True, 3, 7, api.MaxRef<<2 | 3,
		count<<2 | 2, (count+1)<<2 | 2, api.MaxRef<<2 | 2,
		13, 17, 1<<63 | 1, (api.MaxRef+1)<<2 | 2, (api.MaxRef+1)<<2 | 3, 1<<63 | 2, 1<<34 | 2, math.MaxUint64,
	}
}

// zoo makes objects of every kind, no two of which are Equal or Deep alike.
func (m maker) zoo() []api.Value {
	m.t.Helper()
	s := m.str("abc")
	round := m.arr(0)
	m.set(round, 0, round)
	return []api.Value{
		s, m.str(""), m.str("ab"), m.str("abd"), m.str("bbc"), m.str("abc\x00"),
		m.arr(), m.arr(s), m.arr(s, s), m.arr(4), round,
		m.rec(nil), m.rec([]string{"x"}, s), m.rec([]string{"y"}, s), m.rec([]string{"x", "y"}, s, s),
		m.cell(s), m.cell(4), m.cell(api.Nil),
		m.fun(3), m.fun(3), m.fun(3, s),
		m.cplx(0, 0), m.cplx(1<<63, 0), m.cplx(0, 1<<63), m.cplx(1, 2), m.cplx(2, 1),
		m.cplx(math.Float64bits(math.NaN()), 0), m.cplx(math.Float64bits(math.NaN())+1, 0),
		m.item(api.ObjMon, 0), m.item(api.ObjMon, 0), m.item(api.ObjBox, 0), m.item(api.ObjThr, 0),
	}
}

// look tells all that can be asked of a heap's objects, so that two looks are the same just if nothing has changed.
func look(h *heap.Heap) []string {
	l := []string{strconv.Itoa(h.Count())}
	word := func(x api.Value) { l = append(l, strconv.FormatUint(uint64(x), 16)) }
	for i := range h.Count() {
		v := api.Value(i)<<2 | 2
		b, _ := h.Bytes(v)
		n, _ := h.Len(v)
		l = append(l, strconv.Itoa(h.Kind(v)), strconv.Quote(string(b)), strconv.Itoa(n))
		for i := range max(n, 1) {
			x, _ := h.At(v, i)
			word(x)
		}
		keys, _ := h.Keys(v)
		for _, key := range keys {
			x, _ := h.Field(v, key)
			l = append(l, strconv.Quote(key))
			word(x)
		}
		f, cells, _ := h.FunOf(v)
		l = append(l, strconv.Itoa(f))
		for _, x := range cells {
			word(x)
		}
		re, im, _ := h.CplxOf(v)
		word(api.Value(re))
		word(api.Value(im))
		n, _ = h.ItemOf(v)
		l = append(l, strconv.Itoa(n))
	}
	return l
}

// P4.1
func TestEqual(t *testing.T) {
	m := newMaker(t)
	l := m.zoo()
	l = append(l, m.noObjects()...)
	for i, a := range l {
		for j, b := range l {
			if got := Equal(m.h, a, b); got != (i == j) {
				t.Errorf("Equal of %d (%#x) and %d (%#x): %v", i, a, j, b, got)
			}
		}
	}
}

// P4.1: objects made twice. Only strings and complex numbers are told by what they were made of.
func TestEqualMadeTwice(t *testing.T) {
	m := newMaker(t)
	one, two := m.zoo(), m.zoo()
	for i, a := range one {
		kind := m.h.Kind(a)
		want := kind == api.ObjStr || kind == api.ObjCplx
		for j, b := range two {
			if got := Equal(m.h, a, b); got != (want && i == j) {
				t.Errorf("Equal of %d and %d, of another making: %v", i, j, got)
			}
		}
	}
}

// P4.1: long strings, whose last byte counts as well.
func TestEqualLongStrings(t *testing.T) {
	m := newMaker(t)
	long := bytes.Repeat([]byte{0xff}, api.MaxStr)
	a, b := m.str(string(long)), m.str(string(long))
	long[api.MaxStr-1]--
	c := m.str(string(long))
	if !Equal(m.h, a, b) || Equal(m.h, a, c) || Equal(m.h, c, b) {
		t.Error(Equal(m.h, a, b), Equal(m.h, a, c), Equal(m.h, c, b))
	}
}

// P4.1, P4.2, P4.4: what a nil heap answers, whatever is asked of it.
func TestNilHeap(t *testing.T) {
	m := newMaker(t)
	for _, v := range append(m.zoo(), m.noObjects()...) {
		if Equal(nil, v, v) || Equal(nil, v, 0) {
			t.Errorf("Equal of %#x", v)
		}
		for _, w := range []api.Value{v, 0} {
			if alike, e := Deep(nil, v, w); alike || e != api.ErrNil {
				t.Errorf("Deep of %#x and %#x: %v, %d", v, w, alike, e)
			}
		}
		if text, e := Text(nil, v); len(text) != 0 || e != api.ErrNil {
			t.Errorf("Text of %#x: %q, %d", v, text, e)
		}
	}
}

// The chapter: the calls change nothing, with errors or without.
func TestNothingChanges(t *testing.T) {
	m := newMaker(t)
	l := append(m.zoo(), m.zoo()...)
	l = append(l, m.arr(l...), m.arr(l...), m.rec([]string{"all"}, m.arr(l...)), m.str(string(make([]byte, 20000))))
	long := make([]api.Value, 600)
	for i := range long {
		long[i] = m.cell(l[len(l)-1-i%3])
	}
	l = append(l, m.arr(long...), m.arr(long[1:]...), m.ring(256), m.ring(257))
	l = append(l, m.noObjects()...)
	before := look(m.h)
	for _, a := range l {
		Text(m.h, a)
		for _, b := range l {
			Equal(m.h, a, b)
			Deep(m.h, a, b)
		}
	}
	if after := look(m.h); !slices.Equal(before, after) {
		t.Errorf("the heap has changed:\n%q\n%q", before, after)
	}
}
