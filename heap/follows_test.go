package heap

import (
	"bytes"
	"maps"
	"math/rand"
	"slices"
	"strconv"
	"testing"

	"jacquard/api"
	"jacquard/tag"
)

// spoil writes over a list, its spare room too.
func spoil[T any](l []T, x T) {
	l = l[:cap(l)]
	for i := range l {
		l[i] = x
	}
}

// P3.5: what was handed in may be written over.
func TestHandedIn(t *testing.T) {
	h, ok := mustNew(t, 9), made(t)
	b := append(make([]byte, 0, 99), "abc"...)
	l := append(make([]api.Value, 0, 99), 4, 8)
	keys := append(make([]string, 0, 99), "x", "y")
	s, a, r, f := ok(h.Str(b)), ok(h.Arr(l)), ok(h.Rec(keys, l)), ok(h.Fun(1, l))
	unchanged(t, h, "what was handed in", func() {
		spoil(b, 'z')
		spoil(l, api.Nil)
		spoil(keys, "z")
	})
	// Nor is what is written to the objects seen in what was handed in, nor in the other objects made of it.
	for _, e := range []api.Errno{h.Set(a, 0, 12), h.Push(a, 16), h.Put(r, "x", 20), h.Put(r, "w", 24)} {
		if e != api.OK {
			t.Error(e)
		}
	}
	for i, x := range l[:cap(l)] {
		if x != api.Nil || keys[:cap(keys)][i] != "z" || b[:cap(b)][i] != 'z' {
			t.Fatalf("at %d: %d, %q, %q", i, x, keys[:cap(keys)][i], b[:cap(b)][i])
		}
	}
	if got := entries(t, h, a); !slices.Equal(got, []api.Value{12, 8, 16}) {
		t.Error(got)
	}
	if gotKeys, got := fields(t, h, r); !slices.Equal(gotKeys, []string{"x", "y", "w"}) || !slices.Equal(got, []api.Value{20, 8, 24}) {
		t.Error(gotKeys, got)
	}
	if _, got, _ := h.FunOf(f); !slices.Equal(got, []api.Value{4, 8}) {
		t.Error(got)
	}
	if got, _ := h.Bytes(s); string(got) != "abc" {
		t.Errorf("%q", got)
	}
}

// P3.5: what was told may be written over, and stays as it was told.
func TestTold(t *testing.T) {
	h, l := zoo(t, 9)
	s, r, f := l[0], l[2], l[4]
	// The record has got spare room of its own by then.
	for _, key := range []string{"p", "q", "r"} {
		if e := h.Put(r, key, 0); e != api.OK {
			t.Fatal(e)
		}
	}
	kept, _ := h.Keys(r)
	unchanged(t, h, "what was told", func() {
		b, _ := h.Bytes(s)
		keys, _ := h.Keys(r)
		_, cells, _ := h.FunOf(f)
		spoil(b, 'z')
		spoil(keys, "z")
		spoil(cells, api.Nil)
	})
	if e := h.Put(r, "more", 0); e != api.OK || !slices.Equal(kept, []string{"x", "y", "p", "q", "r"}) {
		t.Errorf("%q, %d", kept, e)
	}
	spoil(kept, "z")
	if keys, _ := h.Keys(r); !slices.Equal(keys, []string{"x", "y", "p", "q", "r", "more"}) {
		t.Errorf("%q", keys)
	}
}

// model is a heap again, by other means: each object by itself, records as maps with the order of their keys.
type model struct {
	kind  int
	text  string
	list  []api.Value
	keys  []string
	field map[string]api.Value
}

// holds asks all of a heap's objects whether they are as the model says.
func holds(t *testing.T, h *Heap, all []model) {
	t.Helper()
	if h.Count() != len(all) {
		t.Fatalf("Count %d, not %d", h.Count(), len(all))
	}
	for i, m := range all {
		v, _ := tag.Ref(i)
		if h.Kind(v) != m.kind {
			t.Fatalf("object %d: kind %d, not %d", i, h.Kind(v), m.kind)
		}
		switch m.kind {
		case api.ObjStr:
			if b, e := h.Bytes(v); !bytes.Equal(b, []byte(m.text)) || e != api.OK {
				t.Fatalf("object %d: %q, not %q", i, b, m.text)
			}
		case api.ObjArr:
			if l := entries(t, h, v); !slices.Equal(l, m.list) {
				t.Fatalf("object %d: %d, not %d", i, l, m.list)
			}
		case api.ObjCell:
			if x, e := h.At(v, 0); x != m.list[0] || e != api.OK {
				t.Fatalf("object %d: %d, not %d", i, x, m.list)
			}
		case api.ObjFun:
			if n, l, e := h.FunOf(v); n != i || !slices.Equal(l, m.list) || e != api.OK {
				t.Fatalf("object %d: %d %d, not %d", i, n, l, m.list)
			}
		case api.ObjRec:
			keys, l := fields(t, h, v)
			got := map[string]api.Value{}
			for i, key := range keys {
				got[key] = l[i]
			}
			if !slices.Equal(keys, m.keys) || !maps.Equal(got, m.field) {
				t.Fatalf("object %d: %q %v, not %q %v", i, keys, got, m.keys, m.field)
			}
		}
	}
}

// grow makes an object of a kind that is drawn, and its model.
func grow(t *testing.T, h *Heap, draw *rand.Rand, x, y api.Value) model {
	ok := made(t)
	switch draw.Intn(5) {
	case 0:
		text := strconv.Itoa(draw.Int())
		ok(h.Str([]byte(text)))
		return model{kind: api.ObjStr, text: text}
	case 1:
		ok(h.Arr([]api.Value{x, y}))
		return model{kind: api.ObjArr, list: []api.Value{x, y}}
	case 2:
		ok(h.Cell(x))
		return model{kind: api.ObjCell, list: []api.Value{x}}
	case 3:
		ok(h.Fun(h.Count(), []api.Value{y, x}))
		return model{kind: api.ObjFun, list: []api.Value{y, x}}
	}
	ok(h.Rec([]string{"x", "y"}, []api.Value{x, y}))
	return model{kind: api.ObjRec, keys: []string{"x", "y"}, field: map[string]api.Value{"x": x, "y": y}}
}

// write does one thing to an object and its model, if it is of a kind that can be written to.
func write(t *testing.T, h *Heap, draw *rand.Rand, v api.Value, m *model, x api.Value) {
	var e api.Errno
	switch m.kind {
	case api.ObjCell:
		e, m.list[0] = h.Set(v, 0, x), x
	case api.ObjRec:
		key := strconv.Itoa(draw.Intn(9))
		if _, there := m.field[key]; !there {
			m.keys = append(m.keys, key)
		}
		e, m.field[key] = h.Put(v, key, x), x
	case api.ObjArr:
		n := len(m.list)
		switch {
		case n == 0 || draw.Intn(3) == 0:
			e, m.list = h.Push(v, x), append(m.list, x)
		case draw.Intn(2) == 0:
			var got api.Value
			if got, e = h.Pop(v); got != m.list[n-1] {
				t.Fatalf("Pop: %d, not %d", got, m.list[n-1])
			}
			m.list = m.list[:n-1]
		default:
			i := draw.Intn(n)
			e, m.list[i] = h.Set(v, i, x), x
		}
	}
	if e != api.OK {
		t.Fatalf("not written: error %d", e)
	}
}

// P3.5: objects are apart, whatever is made and written in between.
func TestApart(t *testing.T) {
	for seed := range int64(30) {
		draw := rand.New(rand.NewSource(seed))
		h := mustNew(t, 40)
		var all []model
		for range 400 {
			value := func() api.Value {
				if n := h.Count(); n > 0 && draw.Intn(2) == 0 {
					v, _ := tag.Ref(draw.Intn(n))
					return v
				}
				return tag.Int(draw.Intn(100))
			}
			if h.Count() == 0 || h.Count() < 40 && draw.Intn(5) == 0 {
				all = append(all, grow(t, h, draw, value(), value()))
			} else {
				i := draw.Intn(h.Count())
				v, _ := tag.Ref(i)
				write(t, h, draw, v, &all[i], value())
			}
			holds(t, h, all)
		}
	}
}
