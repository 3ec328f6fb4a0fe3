package heap

import (
	"math"
	"slices"
	"strconv"
	"testing"

	"jacquard/api"
	"jacquard/tag"
)

func mustNew(t *testing.T, most int) *Heap {
	t.Helper()
	h, e := New(most)
	if e != api.OK || h == nil {
		t.Fatalf("New(%d) = %v, %d", most, h, e)
	}
	return h
}

// made is for calls that must go well.
func made(t *testing.T) func(api.Value, api.Errno) api.Value {
	return func(v api.Value, e api.Errno) api.Value {
		t.Helper()
		if e != api.OK {
			t.Fatalf("not made: error %d", e)
		}
		return v
	}
}

// zoo is a heap with an object of every kind, in the order of the kinds: the i-th is of kind i + 1.
func zoo(t *testing.T, most int) (*Heap, []api.Value) {
	t.Helper()
	h, ok := mustNew(t, most), made(t)
	l := []api.Value{
		ok(h.Str([]byte("abc"))),
		ok(h.Arr([]api.Value{tag.Int(7), api.Nil})),
		ok(h.Rec([]string{"x", "y"}, []api.Value{api.True, tag.Int(-1)})),
		ok(h.Cell(tag.Int(5))),
		ok(h.Fun(3, []api.Value{api.False, 2})),
		ok(h.Cplx(math.MaxUint64, 1<<63)),
		ok(h.Item(api.ObjMon, 0)),
		ok(h.Item(api.ObjBox, 8)),
		ok(h.Item(api.ObjThr, math.MaxInt)),
	}
	for i, v := range l {
		if h.Kind(v) != i+1 {
			t.Fatalf("object %d has kind %d", i, h.Kind(v))
		}
	}
	return h, l
}

// noRefs are words that are no good references in a heap of count objects.
func noRefs(count int) []api.Value {
	return []api.Value{
		tag.Int(0), tag.Int(1), tag.Int(-1), tag.Int(api.MaxInt), api.Nil, api.False, api.True, 3, 7, api.MaxRef<<2 | 3,
		api.Value(count)<<2 | 2, api.Value(count+1)<<2 | 2, api.MaxRef<<2 | 2,
		13, 17, 1<<63 | 1, (api.MaxRef+1)<<2 | 2, (api.MaxRef+1)<<2 | 3, 1<<63 | 2, 1<<34 | 2, math.MaxUint64,
	}
}

// noValues are words that are not Good in a heap of count objects.
func noValues(count int) []api.Value {
	return noRefs(count)[10:]
}

// look tells all that can be asked of a heap's objects, so that two looks are the same just if nothing has changed.
func look(h *Heap) []string {
	l := []string{strconv.Itoa(h.Count())}
	for i := range h.Count() {
		v := api.Value(i)<<2 | 2
		l = append(l, strconv.Itoa(h.Kind(v)))
		b, e := h.Bytes(v)
		l = append(l, strconv.Quote(string(b)), strconv.Itoa(int(e)))
		n, e := h.Len(v)
		l = append(l, strconv.Itoa(n), strconv.Itoa(int(e)))
		for i := range max(n, 1) + 1 {
			x, e := h.At(v, i)
			l = append(l, strconv.FormatUint(uint64(x), 16), strconv.Itoa(int(e)))
		}
		keys, e := h.Keys(v)
		l = append(l, strconv.Itoa(len(keys)), strconv.Itoa(int(e)))
		for _, key := range keys {
			x, e := h.Field(v, key)
			l = append(l, strconv.Quote(key), strconv.FormatUint(uint64(x), 16), strconv.Itoa(int(e)))
		}
		f, cells, e := h.FunOf(v)
		l = append(l, strconv.Itoa(f), strconv.Itoa(int(e)))
		for _, x := range cells {
			l = append(l, strconv.FormatUint(uint64(x), 16))
		}
		re, im, e := h.CplxOf(v)
		l = append(l, strconv.FormatUint(re, 16), strconv.FormatUint(im, 16), strconv.Itoa(int(e)))
		n, e = h.ItemOf(v)
		l = append(l, strconv.Itoa(n), strconv.Itoa(int(e)))
	}
	return l
}

// unchanged holds a call against what the heap looked like ahead of it.
func unchanged(t *testing.T, h *Heap, what string, call func()) {
	t.Helper()
	before := look(h)
	call()
	if after := look(h); !slices.Equal(before, after) {
		t.Errorf("%s changed the heap:\n%q\n%q", what, before, after)
	}
}

// P3.1
func TestNew(t *testing.T) {
	for _, most := range []int{math.MinInt, -1, 0, api.MaxObjects + 1, math.MaxInt} {
		if h, e := New(most); h != nil || e != api.ErrArg {
			t.Errorf("New(%d) = %v, %d", most, h, e)
		}
	}
	for _, most := range []int{1, 2, 100, api.MaxObjects} {
		h := mustNew(t, most)
		if h.Count() != 0 {
			t.Errorf("New(%d) has %d objects", most, h.Count())
		}
		for i := range most {
			if v, e := h.Cplx(0, 0); v != api.Value(i)<<2|2 || e != api.OK || h.Count() != i+1 {
				t.Fatalf("most %d, object %d: %d, %d; Count %d", most, i, v, e, h.Count())
			}
		}
		if v, e := h.Cplx(0, 0); v != 0 || e != api.ErrMany || h.Count() != most {
			t.Errorf("most %d: one more: %d, %d; Count %d", most, v, e, h.Count())
		}
	}
	a, b := mustNew(t, 1), mustNew(t, 1)
	made(t)(a.Cell(0))
	if b.Count() != 0 {
		t.Error("heaps are not apart")
	}
}

// P3.1
func TestNilHeap(t *testing.T) {
	var h *Heap
	words := append(noRefs(0), 2, 6)
	if h.Count() != 0 {
		t.Error("Count")
	}
	value := func(name string, x api.Value, e api.Errno) {
		t.Helper()
		if x != 0 || e != api.ErrNil {
			t.Errorf("%s: %d, %d", name, x, e)
		}
	}
	wrong := func(name string, e api.Errno) { t.Helper(); value(name, 0, e) }
	for _, v := range words {
		if h.Kind(v) != 0 || h.Good(v) {
			t.Errorf("%#x: Kind %d, Good %v", v, h.Kind(v), h.Good(v))
		}
		x, e := h.Cell(v)
		value("Cell", x, e)
		b, e := h.Bytes(v)
		value("Bytes", api.Value(len(b)), e)
		n, e := h.Len(v)
		value("Len", api.Value(n), e)
		for _, i := range []int{-1, 0, 1} {
			x, e = h.At(v, i)
			value("At", x, e)
			wrong("Set", h.Set(v, i, v))
		}
		wrong("Push", h.Push(v, v))
		x, e = h.Pop(v)
		value("Pop", x, e)
		keys, e := h.Keys(v)
		value("Keys", api.Value(len(keys)), e)
		x, e = h.Field(v, "x")
		value("Field", x, e)
		wrong("Put", h.Put(v, "x", v))
		n, cells, e := h.FunOf(v)
		value("FunOf", api.Value(n+len(cells)), e)
		re, im, e := h.CplxOf(v)
		value("CplxOf", api.Value(re|im), e)
		n, e = h.ItemOf(v)
		value("ItemOf", api.Value(n), e)
	}
	// ErrNil also where there would be another error.
	for _, size := range []int{0, 1, api.MaxList + 1} {
		x, e := h.Str(make([]byte, size))
		value("Str", x, e)
		x, e = h.Arr(make([]api.Value, size))
		value("Arr", x, e)
		x, e = h.Rec(make([]string, size), nil)
		value("Rec", x, e)
		x, e = h.Fun(-size, make([]api.Value, size))
		value("Fun", x, e)
		x, e = h.Cplx(1, 2)
		value("Cplx", x, e)
		x, e = h.Item(size, -size)
		value("Item", x, e)
		x, e = h.Item(api.ObjMon, size)
		value("Item", x, e)
	}
}

// P3.2
func TestReferences(t *testing.T) {
	h, l := zoo(t, 20)
	for i, v := range l {
		if want, _ := tag.Ref(i); v != want {
			t.Errorf("object %d: %#x, not %#x", i, v, want)
		}
		if !h.Good(v) || h.Kind(v) != i+1 {
			t.Errorf("object %d: Good %v, Kind %d", i, h.Good(v), h.Kind(v))
		}
	}
	bad := noValues(h.Count())
	for _, v := range noRefs(h.Count()) {
		if got, want := h.Good(v), !slices.Contains(bad, v); got != want {
			t.Errorf("Good(%#x) = %v", v, got)
		}
		if h.Kind(v) != 0 {
			t.Errorf("Kind(%#x) = %d", v, h.Kind(v))
		}
	}
}

// P3.2
func TestIndexOfCount(t *testing.T) {
	h := mustNew(t, 3)
	for i := range 3 {
		next := api.Value(i)<<2 | 2
		if h.Good(next) || h.Kind(next) != 0 {
			t.Errorf("the reference %d is good ahead of its object", i)
		}
		// No object can be made of itself: its reference is not yet good.
		if v, e := h.Cell(next); v != 0 || e != api.ErrArg {
			t.Errorf("Cell of itself: %d, %d", v, e)
		}
		if v, e := h.Str(nil); v != next || e != api.OK || !h.Good(next) || h.Kind(next) != api.ObjStr {
			t.Errorf("object %d: %d, %d, Good %v, Kind %d", i, v, e, h.Good(next), h.Kind(next))
		}
	}
}

// P3.2, P3.3, P3.4: the chapter's example.
func TestExample(t *testing.T) {
	h := mustNew(t, 2)
	s, e := h.Str([]byte("a"))
	if s != 2 || e != api.OK {
		t.Errorf("Str: %d, %d", s, e)
	}
	a, e := h.Arr([]api.Value{s})
	if a != 6 || e != api.OK {
		t.Errorf("Arr: %d, %d", a, e)
	}
	if v, e := h.Cell(api.Nil); v != 0 || e != api.ErrMany {
		t.Errorf("Cell: %d, %d", v, e)
	}
	if x, e := h.At(s, 0); x != tag.Int(97) || e != api.OK {
		t.Errorf("At: %d, %d", x, e)
	}
	if x, e := h.At(a, 0); x != s || e != api.OK {
		t.Errorf("At: %d, %d", x, e)
	}
}
