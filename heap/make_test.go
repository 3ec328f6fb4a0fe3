package heap

import (
	"bytes"
	"math"
	"slices"
	"strconv"
	"testing"

	"jacquard/api"
	"jacquard/tag"
)

func values(n int, x api.Value) []api.Value {
	l := make([]api.Value, n)
	for i := range l {
		l[i] = x
	}
	return l
}

// names are n keys, all of them apart; the empty one is among them.
func names(n int) []string {
	l := make([]string, n)
	for i := range l {
		if i > 0 {
			l[i] = "k" + strconv.Itoa(i)
		}
	}
	return l
}

// making is a call that makes an object, or the error that it must answer.
type making struct {
	name string
	call func(h *Heap) (api.Value, api.Errno)
	want api.Errno
}

func str(n int, want api.Errno) making {
	return making{"Str of " + strconv.Itoa(n), func(h *Heap) (api.Value, api.Errno) { return h.Str(make([]byte, n)) }, want}
}

func arr(l []api.Value, want api.Errno) making {
	return making{"Arr of " + strconv.Itoa(len(l)), func(h *Heap) (api.Value, api.Errno) { return h.Arr(l) }, want}
}

func rec(keys []string, l []api.Value, want api.Errno) making {
	name := "Rec of " + strconv.Itoa(len(keys)) + ", " + strconv.Itoa(len(l))
	return making{name, func(h *Heap) (api.Value, api.Errno) { return h.Rec(keys, l) }, want}
}

func cell(x api.Value, want api.Errno) making {
	return making{"Cell of " + strconv.Itoa(int(x)), func(h *Heap) (api.Value, api.Errno) { return h.Cell(x) }, want}
}

func fun(f int, l []api.Value, want api.Errno) making {
	name := "Fun of " + strconv.Itoa(f) + ", " + strconv.Itoa(len(l))
	return making{name, func(h *Heap) (api.Value, api.Errno) { return h.Fun(f, l) }, want}
}

func item(kind, n int, want api.Errno) making {
	name := "Item of " + strconv.Itoa(kind) + ", " + strconv.Itoa(n)
	return making{name, func(h *Heap) (api.Value, api.Errno) { return h.Item(kind, n) }, want}
}

// makings are calls on a heap with room, of count objects.
func makings(count int) []making {
	l := []making{
		str(0, api.OK), str(1, api.OK), str(api.MaxStr, api.OK), str(api.MaxStr+1, api.ErrLong),
		arr(nil, api.OK), arr(values(api.MaxList, api.Nil), api.OK), arr(values(api.MaxList+1, api.Nil), api.ErrLong),
		rec(nil, nil, api.OK), rec(names(1), values(1, 2), api.OK),
		rec(names(api.MaxFields), values(api.MaxFields, 0), api.OK),
		rec(names(api.MaxFields+1), values(api.MaxFields+1, 0), api.ErrLong),
		rec(names(1), nil, api.ErrArg), rec(nil, values(1, 0), api.ErrArg),
		rec(names(2), values(1, 0), api.ErrArg), rec(names(1), values(2, 0), api.ErrArg),
		rec([]string{"a", "a"}, values(2, 0), api.ErrArg), rec([]string{"a", "b", "a"}, values(3, 0), api.ErrArg),
		rec([]string{"b", "a", "a"}, values(3, 0), api.ErrArg), rec([]string{"", ""}, values(2, 0), api.ErrArg),
		rec([]string{"a", "A", "", "a ", "\x00", "\xff"}, values(6, 0), api.OK),
		rec(append(names(api.MaxFields-1), "k1"), values(api.MaxFields, 0), api.ErrArg),
		// As many values as there may be keys and more are not too long, only too many for the keys.
		rec(nil, values(api.MaxFields+1, 0), api.ErrArg), rec(names(api.MaxFields), values(api.MaxFields+1, 0), api.ErrArg),
		fun(0, nil, api.OK), fun(math.MaxInt, values(1, api.True), api.OK),
		fun(0, values(api.MaxFields, 2), api.OK), fun(0, values(api.MaxFields+1, 2), api.ErrLong),
		fun(-1, nil, api.ErrArg), fun(math.MinInt, values(1, 0), api.ErrArg),
		{"Cplx", func(h *Heap) (api.Value, api.Errno) { return h.Cplx(math.MaxUint64, 0) }, api.OK},
	}
	for kind := -1; kind <= api.ObjThr+1; kind++ {
		want := api.ErrArg
		if kind >= api.ObjMon && kind <= api.ObjThr {
			want = api.OK
		}
		l = append(l, item(kind, 0, want), item(kind, math.MaxInt, want))
		l = append(l, item(kind, -1, api.ErrArg), item(kind, math.MinInt, api.ErrArg))
	}
	for _, x := range []api.Value{0, tag.Int(api.MinInt), api.Nil, api.False, api.True, 3, 7, api.MaxRef<<2 | 3, 2} {
		l = append(l, arr([]api.Value{x, x}, api.OK), cell(x, api.OK), fun(1, []api.Value{x}, api.OK))
		l = append(l, rec(names(2), []api.Value{x, x}, api.OK))
	}
	for _, x := range noValues(count) {
		l = append(l, arr([]api.Value{x}, api.ErrArg), cell(x, api.ErrArg), fun(1, []api.Value{x}, api.ErrArg))
		l = append(l, arr([]api.Value{0, 2, x}, api.ErrArg), fun(0, []api.Value{0, 2, x}, api.ErrArg))
		l = append(l, arr([]api.Value{x, 0}, api.ErrArg), rec(names(2), []api.Value{x, 0}, api.ErrArg))
		l = append(l, rec(names(2), []api.Value{0, x}, api.ErrArg))
		// ErrLong is asked ahead of ErrArg.
		l = append(l, arr(values(api.MaxList+1, x), api.ErrLong), fun(-1, values(api.MaxFields+1, x), api.ErrLong))
		l = append(l, rec(make([]string, api.MaxFields+1), values(1, x), api.ErrLong))
	}
	return l
}

// P3.3
func TestMaking(t *testing.T) {
	for _, m := range makings(1) {
		h := mustNew(t, 2)
		made(t)(h.Str([]byte("s")))
		before := look(h)
		v, e := m.call(h)
		switch {
		case e != m.want:
			t.Errorf("%s: error %d, not %d", m.name, e, m.want)
		case e != api.OK && (v != 0 || !slices.Equal(before, look(h))):
			t.Errorf("%s: error %d, but %d, or the heap has changed", m.name, e, v)
		case e == api.OK && (v != 6 || h.Count() != 2):
			t.Errorf("%s: %d, Count %d", m.name, v, h.Count())
		}
	}
}

// P3.3: a heap that is full answers ErrMany, after all other errors.
func TestMakingInFullHeap(t *testing.T) {
	for _, m := range makings(1) {
		h := mustNew(t, 1)
		made(t)(h.Str([]byte("s")))
		want := m.want
		if want == api.OK {
			want = api.ErrMany
		}
		unchanged(t, h, m.name, func() {
			if v, e := m.call(h); v != 0 || e != want {
				t.Errorf("%s: %d, %d, not %d", m.name, v, e, want)
			}
		})
	}
}

// P3.3, P3.4: objects are what they were made of.
func TestMade(t *testing.T) {
	h, ok := mustNew(t, 100), made(t)
	all := make([]byte, 256)
	for i := range all {
		all[i] = byte(i)
	}
	for _, b := range [][]byte{nil, {}, {0}, []byte("ab\xff\x00"), all, bytes.Repeat([]byte{'x'}, api.MaxStr)} {
		v := ok(h.Str(b))
		got, e := h.Bytes(v)
		n, e2 := h.Len(v)
		if !bytes.Equal(got, b) || n != len(b) || e != api.OK || e2 != api.OK || h.Kind(v) != api.ObjStr {
			t.Errorf("Str(%.20q): %.20q, %d; Len %d, %d", b, got, e, n, e2)
		}
	}
	for _, l := range [][]api.Value{nil, {}, {2}, {0, api.Nil, 2, 3}, values(api.MaxList, tag.Int(4))} {
		v := ok(h.Arr(l))
		if got := entries(t, h, v); !slices.Equal(got, l) || h.Kind(v) != api.ObjArr {
			t.Errorf("Arr of %d: %d entries", len(l), len(got))
		}
	}
	for _, n := range []int{0, 1, 2, api.MaxFields} {
		keys, l := names(n), make([]api.Value, n)
		for i := range l {
			l[i] = tag.Int(i * i)
		}
		slices.Reverse(keys)
		v := ok(h.Rec(keys, l))
		gotKeys, got := fields(t, h, v)
		if !slices.Equal(gotKeys, keys) || !slices.Equal(got, l) || h.Kind(v) != api.ObjRec {
			t.Errorf("Rec of %d: %q, %d", n, gotKeys, got)
		}
		f := ok(h.Fun(n*n, l))
		if n2, got, e := h.FunOf(f); n2 != n*n || !slices.Equal(got, l) || e != api.OK || h.Kind(f) != api.ObjFun {
			t.Errorf("Fun of %d: %d, %d, %d", n, n2, got, e)
		}
	}
	for _, p := range [][2]uint64{{0, 0}, {1, 2}, {1 << 63, math.MaxUint64}, {0x7ff8000000000001, 0x7ff0000000000001}} {
		v := ok(h.Cplx(p[0], p[1]))
		if re, im, e := h.CplxOf(v); re != p[0] || im != p[1] || e != api.OK || h.Kind(v) != api.ObjCplx {
			t.Errorf("Cplx(%d): %d, %d, %d", p, re, im, e)
		}
	}
	for _, kind := range []int{api.ObjMon, api.ObjBox, api.ObjThr} {
		for _, n := range []int{0, 1, math.MaxInt} {
			v := ok(h.Item(kind, n))
			if got, e := h.ItemOf(v); got != n || e != api.OK || h.Kind(v) != kind {
				t.Errorf("Item(%d, %d): %d, %d", kind, n, got, e)
			}
		}
	}
	c := ok(h.Cell(2))
	if x, e := h.At(c, 0); x != 2 || e != api.OK || h.Kind(c) != api.ObjCell {
		t.Errorf("Cell: %d, %d", x, e)
	}
}

func entries(t *testing.T, h *Heap, v api.Value) []api.Value {
	t.Helper()
	n, e := h.Len(v)
	if e != api.OK {
		t.Fatalf("Len: %d", e)
	}
	l := make([]api.Value, n)
	for i := range l {
		x, e := h.At(v, i)
		if e != api.OK {
			t.Fatalf("At(%d): %d", i, e)
		}
		l[i] = x
	}
	return l
}

func fields(t *testing.T, h *Heap, v api.Value) ([]string, []api.Value) {
	t.Helper()
	keys, e := h.Keys(v)
	if n, e2 := h.Len(v); e != api.OK || e2 != api.OK || n != len(keys) {
		t.Fatalf("Keys: %q, %d; Len: %d, %d", keys, e, n, e2)
	}
	l := make([]api.Value, len(keys))
	for i, key := range keys {
		x, e := h.Field(v, key)
		if e != api.OK {
			t.Fatalf("Field(%q): %d", key, e)
		}
		l[i] = x
	}
	return keys, l
}
