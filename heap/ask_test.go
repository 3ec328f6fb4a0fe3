package heap

import (
	"math"
	"slices"
	"testing"

	"jacquard/api"
	"jacquard/tag"
)

// bad is a word that is Good in no heap.
const bad api.Value = 13

// asking is a call that is for the objects of some kinds, with arguments that would be errors else; it answers
// whether all but the error is zero.
type asking struct {
	name  string
	kinds []int
	call  func(h *Heap, v api.Value) (bool, api.Errno)
}

func askings() []asking {
	items := []int{api.ObjMon, api.ObjBox, api.ObjThr}
	value := func(x api.Value, e api.Errno) (bool, api.Errno) { return x == 0, e }
	return []asking{
		{"Bytes", []int{api.ObjStr}, func(h *Heap, v api.Value) (bool, api.Errno) { b, e := h.Bytes(v); return len(b) == 0, e }},
		{"Len", []int{api.ObjStr, api.ObjArr, api.ObjRec}, func(h *Heap, v api.Value) (bool, api.Errno) { n, e := h.Len(v); return n == 0, e }},
		{"At", []int{api.ObjStr, api.ObjArr, api.ObjCell}, func(h *Heap, v api.Value) (bool, api.Errno) { return value(h.At(v, 0)) }},
		{"At(-1)", []int{api.ObjStr, api.ObjArr, api.ObjCell}, func(h *Heap, v api.Value) (bool, api.Errno) { return value(h.At(v, -1)) }},
		{"Set", []int{api.ObjArr, api.ObjCell}, func(h *Heap, v api.Value) (bool, api.Errno) { return true, h.Set(v, 0, 0) }},
		{"Set(-1)", []int{api.ObjArr, api.ObjCell}, func(h *Heap, v api.Value) (bool, api.Errno) { return true, h.Set(v, -1, 0) }},
		{"Set(bad)", []int{api.ObjArr, api.ObjCell}, func(h *Heap, v api.Value) (bool, api.Errno) { return true, h.Set(v, 0, bad) }},
		{"Push", []int{api.ObjArr}, func(h *Heap, v api.Value) (bool, api.Errno) { return true, h.Push(v, 0) }},
		{"Push(bad)", []int{api.ObjArr}, func(h *Heap, v api.Value) (bool, api.Errno) { return true, h.Push(v, bad) }},
		{"Pop", []int{api.ObjArr}, func(h *Heap, v api.Value) (bool, api.Errno) { return value(h.Pop(v)) }},
		{"Keys", []int{api.ObjRec}, func(h *Heap, v api.Value) (bool, api.Errno) { l, e := h.Keys(v); return len(l) == 0, e }},
		{"Field", []int{api.ObjRec}, func(h *Heap, v api.Value) (bool, api.Errno) { return value(h.Field(v, "x")) }},
		{"Field(none)", []int{api.ObjRec}, func(h *Heap, v api.Value) (bool, api.Errno) { return value(h.Field(v, "")) }},
		{"Put", []int{api.ObjRec}, func(h *Heap, v api.Value) (bool, api.Errno) { return true, h.Put(v, "x", 0) }},
		{"Put(bad)", []int{api.ObjRec}, func(h *Heap, v api.Value) (bool, api.Errno) { return true, h.Put(v, "x", bad) }},
		{"FunOf", []int{api.ObjFun}, func(h *Heap, v api.Value) (bool, api.Errno) { f, l, e := h.FunOf(v); return f == 0 && len(l) == 0, e }},
		{"CplxOf", []int{api.ObjCplx}, func(h *Heap, v api.Value) (bool, api.Errno) { re, im, e := h.CplxOf(v); return re|im == 0, e }},
		{"ItemOf", items, func(h *Heap, v api.Value) (bool, api.Errno) { n, e := h.ItemOf(v); return n == 0, e }},
	}
}

// P3.4: ErrKind for other kinds and other words, ahead of all other errors; for its own kinds never.
func TestErrKind(t *testing.T) {
	for _, a := range askings() {
		h, l := zoo(t, 20)
		for i, v := range l {
			if slices.Contains(a.kinds, i+1) {
				if _, e := a.call(h, v); e == api.ErrKind {
					t.Errorf("%s of kind %d: ErrKind", a.name, i+1)
				}
				continue
			}
			unchanged(t, h, a.name, func() {
				if zero, e := a.call(h, v); !zero || e != api.ErrKind {
					t.Errorf("%s of kind %d: error %d, zero %v", a.name, i+1, e, zero)
				}
			})
		}
		for _, v := range noRefs(h.Count()) {
			unchanged(t, h, a.name, func() {
				if zero, e := a.call(h, v); !zero || e != api.ErrKind {
					t.Errorf("%s of %#x: error %d, zero %v", a.name, v, e, zero)
				}
			})
		}
	}
}

// P3.4
func TestAt(t *testing.T) {
	h, ok := mustNew(t, 9), made(t)
	empty, none := ok(h.Str(nil)), ok(h.Arr(nil))
	s := ok(h.Str([]byte{0, 'b', 0xff}))
	a := ok(h.Arr([]api.Value{api.True, s}))
	c := ok(h.Cell(a))
	for _, x := range []struct {
		v    api.Value
		i    int
		want api.Value
		e    api.Errno
	}{
		{s, 0, tag.Int(0), api.OK}, {s, 1, tag.Int('b'), api.OK}, {s, 2, tag.Int(255), api.OK},
		{s, 3, 0, api.ErrRange}, {s, -1, 0, api.ErrRange}, {s, math.MaxInt, 0, api.ErrRange}, {s, math.MinInt, 0, api.ErrRange},
		{a, 0, api.True, api.OK}, {a, 1, s, api.OK},
		{a, 2, 0, api.ErrRange}, {a, -1, 0, api.ErrRange}, {a, math.MaxInt, 0, api.ErrRange}, {a, math.MinInt, 0, api.ErrRange},
		{c, 0, a, api.OK}, {c, 1, 0, api.ErrRange}, {c, -1, 0, api.ErrRange}, {c, math.MaxInt, 0, api.ErrRange},
		{empty, 0, 0, api.ErrRange}, {empty, -1, 0, api.ErrRange}, {none, 0, 0, api.ErrRange}, {none, -1, 0, api.ErrRange},
	} {
		if got, e := h.At(x.v, x.i); got != x.want || e != x.e {
			t.Errorf("At(%d, %d) = %d, %d", x.v, x.i, got, e)
		}
	}
}

// P3.4
func TestSet(t *testing.T) {
	h, ok := mustNew(t, 9), made(t)
	s := ok(h.Str([]byte("ab")))
	a := ok(h.Arr([]api.Value{api.True, s}))
	c := ok(h.Cell(api.Nil))
	for _, x := range []struct {
		v api.Value
		i int
		x api.Value
		e api.Errno
	}{
		{s, 0, tag.Int(1), api.ErrKind}, {s, 9, bad, api.ErrKind},
		{a, 2, 0, api.ErrRange}, {a, -1, 0, api.ErrRange}, {a, math.MaxInt, 0, api.ErrRange}, {a, math.MinInt, 0, api.ErrRange},
		{c, 1, 0, api.ErrRange}, {c, -1, 0, api.ErrRange},
		// ErrArg is asked ahead of ErrRange.
		{a, 2, bad, api.ErrArg}, {a, 0, bad, api.ErrArg}, {c, 1, bad, api.ErrArg}, {c, 0, bad, api.ErrArg},
		{a, 0, 14, api.ErrArg}, {c, 0, 14, api.ErrArg},
	} {
		unchanged(t, h, "Set", func() {
			if e := h.Set(x.v, x.i, x.x); e != x.e {
				t.Errorf("Set(%d, %d, %d) = %d, not %d", x.v, x.i, x.x, e, x.e)
			}
		})
	}
	for _, x := range []api.Value{0, api.Nil, 3, s, a, c} {
		if e := h.Set(a, 1, x); e != api.OK || !slices.Equal(entries(t, h, a), []api.Value{api.True, x}) {
			t.Errorf("Set(a, 1, %d) = %d: %d", x, e, entries(t, h, a))
		}
		e := h.Set(c, 0, x)
		if got, e2 := h.At(c, 0); e != api.OK || got != x || e2 != api.OK {
			t.Errorf("Set(c, 0, %d) = %d: %d, %d", x, e, got, e2)
		}
	}
	if e := h.Set(a, 0, a); e != api.OK || !slices.Equal(entries(t, h, a), []api.Value{a, c}) {
		t.Errorf("Set(a, 0, a) = %d: %d", e, entries(t, h, a))
	}
}

// P3.4
func TestPushAndPop(t *testing.T) {
	h, ok := mustNew(t, 2), made(t)
	a := ok(h.Arr(nil))
	none := func() {
		t.Helper()
		unchanged(t, h, "Pop", func() {
			if x, e := h.Pop(a); x != 0 || e != api.ErrNone {
				t.Errorf("Pop of an empty array: %d, %d", x, e)
			}
		})
	}
	none()
	var want []api.Value
	for _, x := range []api.Value{tag.Int(7), a, api.Nil, 3} {
		want = append(want, x)
		if e := h.Push(a, x); e != api.OK || !slices.Equal(entries(t, h, a), want) {
			t.Errorf("Push(%d) = %d: %d", x, e, entries(t, h, a))
		}
	}
	for _, x := range noValues(1) {
		unchanged(t, h, "Push", func() {
			if e := h.Push(a, x); e != api.ErrArg {
				t.Errorf("Push(%#x) = %d", x, e)
			}
		})
	}
	for len(want) > 0 {
		last := want[len(want)-1]
		want = want[:len(want)-1]
		if x, e := h.Pop(a); x != last || e != api.OK || !slices.Equal(entries(t, h, a), want) {
			t.Errorf("Pop = %d, %d: %d", x, e, entries(t, h, a))
		}
		if x, e := h.At(a, len(want)); x != 0 || e != api.ErrRange {
			t.Errorf("At of what was taken: %d, %d", x, e)
		}
	}
	none()
	if e := h.Push(a, api.True); e != api.OK || !slices.Equal(entries(t, h, a), []api.Value{api.True}) {
		t.Errorf("Push after Pop = %d: %d", e, entries(t, h, a))
	}
}

// P3.4
func TestPushToFullArray(t *testing.T) {
	h, ok := mustNew(t, 2), made(t)
	a := ok(h.Arr(values(api.MaxList-1, api.Nil)))
	if e := h.Push(a, api.True); e != api.OK {
		t.Fatalf("Push of the last that may be: %d", e)
	}
	for x, want := range map[api.Value]api.Errno{0: api.ErrLong, a: api.ErrLong, bad: api.ErrArg, a + 4: api.ErrArg} {
		if e := h.Push(a, x); e != want {
			t.Errorf("Push(%d) = %d, not %d", x, e, want)
		}
	}
	if n, e := h.Len(a); n != api.MaxList || e != api.OK {
		t.Errorf("Len = %d, %d", n, e)
	}
	if x, e := h.At(a, api.MaxList-1); x != api.True || e != api.OK {
		t.Errorf("At the end: %d, %d", x, e)
	}
	if x, e := h.Pop(a); x != api.True || e != api.OK {
		t.Errorf("Pop: %d, %d", x, e)
	}
	if e := h.Push(a, api.False); e != api.OK {
		t.Errorf("Push after Pop: %d", e)
	}
}

// P3.4
func TestPutAndField(t *testing.T) {
	h, ok := mustNew(t, 2), made(t)
	r := ok(h.Rec([]string{"y", "x"}, []api.Value{0, 4}))
	holds := func(keys []string, l []api.Value) {
		t.Helper()
		gotKeys, got := fields(t, h, r)
		if !slices.Equal(gotKeys, keys) || !slices.Equal(got, l) {
			t.Errorf("%q %d, not %q %d", gotKeys, got, keys, l)
		}
	}
	for _, key := range []string{"", "z", "X", "xy", "y\x00"} {
		if x, e := h.Field(r, key); x != 0 || e != api.ErrNone {
			t.Errorf("Field(%q) = %d, %d", key, x, e)
		}
	}
	for _, x := range noValues(1) {
		for _, key := range []string{"x", "new"} {
			unchanged(t, h, "Put", func() {
				if e := h.Put(r, key, x); e != api.ErrArg {
					t.Errorf("Put(%q, %#x) = %d", key, x, e)
				}
			})
		}
	}
	put := func(key string, x api.Value) {
		t.Helper()
		if e := h.Put(r, key, x); e != api.OK {
			t.Errorf("Put(%q, %d) = %d", key, x, e)
		}
	}
	put("y", api.True)
	holds([]string{"y", "x"}, []api.Value{api.True, 4})
	put("a", r)
	holds([]string{"y", "x", "a"}, []api.Value{api.True, 4, r})
	put("x", 3)
	put("", api.Nil)
	put("a", api.False)
	holds([]string{"y", "x", "a", ""}, []api.Value{api.True, 3, api.False, api.Nil})
}

// P3.4
func TestPutInFullRecord(t *testing.T) {
	h, ok := mustNew(t, 2), made(t)
	keys := names(api.MaxFields)
	last := keys[api.MaxFields-1]
	r := ok(h.Rec(keys[:api.MaxFields-1], values(api.MaxFields-1, 0)))
	if e := h.Put(r, last, api.Nil); e != api.OK {
		t.Fatalf("Put of the last that may be: %d", e)
	}
	unchanged(t, h, "Put", func() {
		if e := h.Put(r, "new", 0); e != api.ErrLong {
			t.Errorf("Put of one more: %d", e)
		}
		if e := h.Put(r, "new", bad); e != api.ErrArg {
			t.Errorf("Put of one more, and no value: %d", e)
		}
		if e := h.Put(r, last, bad); e != api.ErrArg {
			t.Errorf("Put of no value: %d", e)
		}
	})
	for _, key := range []string{"", "k7", last} {
		if e := h.Put(r, key, api.True); e != api.OK {
			t.Errorf("Put(%q): %d", key, e)
		}
	}
	if gotKeys, l := fields(t, h, r); !slices.Equal(gotKeys, keys) || l[0] != api.True || l[7] != api.True || l[255] != api.True || l[8] != 0 {
		t.Errorf("%q %d", gotKeys, l)
	}
}
