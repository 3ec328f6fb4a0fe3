package prim

import (
	"math"
	"slices"
	"strings"
	"testing"

	"jacquard/api"
	"jacquard/show"
	"jacquard/tag"
)

// call is a primitive's, with what it must answer: what its value looks like, or a fault.
type call struct {
	p    int
	args []api.Value
	want string
	f    int
}

func (b *bench) check(list []call) {
	b.t.Helper()
	for _, c := range list {
		before := b.all()
		args := slices.Clone(c.args)
		v, f := Pure(b.h, c.p, args)
		if f != c.f || f != 0 && v != 0 || f == 0 && b.look(v) != c.want {
			b.t.Errorf("Pure(%d, %#x) = %s, %d, not %s, %d", c.p, c.args, b.look(v), f, c.want, c.f)
		}
		if f != 0 && b.all() != before {
			b.t.Errorf("Pure(%d, %#x): beside %d something has changed", c.p, c.args, f)
		}
		if !slices.Equal(args, c.args) {
			b.t.Errorf("Pure(%d) wrote to its arguments", c.p)
		}
	}
}

func with(l ...api.Value) []api.Value { return l }

// P9.5: FaultCall and FaultArgs, in this order, ahead of what arguments are.
func TestPureCalls(t *testing.T) {
	b := newBench(t, 10)
	list := b.arr()
	before := b.all()
	for _, p := range edgeInts() {
		for n := range 5 {
			want := api.FaultType
			switch {
			case p < 1 || p > 13:
				want = api.FaultCall
			case n != Arity(p):
				want = api.FaultArgs
			case p == api.PrimSame || p == api.PrimText:
				continue // they take whatever word there is
			}
			args := slices.Repeat(with(13), n)
			if v, f := Pure(b.h, p, args); v != 0 || f != want {
				t.Errorf("Pure(%d, %d arguments) = %#x, %d", p, n, v, f)
			}
		}
	}
	for p := range 14 {
		for _, args := range [][]api.Value{nil, with(), with(list, list, list, list)} {
			if _, f := Pure(b.h, p, args); f != api.FaultArgs && (p != 0 || f != api.FaultCall) {
				t.Errorf("Pure(%d, %d arguments): %d", p, len(args), f)
			}
		}
	}
	if b.all() != before {
		t.Error("something has changed")
	}
}

// P9.5
func TestLenPushPop(t *testing.T) {
	b := newBench(t, 100)
	list := b.arr(tag.Int(5))
	b.check([]call{
		{api.PrimLen, with(list), "1", 0}, {api.PrimLen, with(b.str("\x00a\xff")), "3", 0}, {api.PrimLen, with(b.str("")), "0", 0},
		{api.PrimLen, with(b.rec("a", "b")), "2", 0}, {api.PrimLen, with(b.rec()), "0", 0},
		{api.PrimPush, with(list, list), "nil", 0}, {api.PrimLen, with(list), "2", 0},
		{api.PrimText, with(list), `"[5, ^1]"`, 0},
		{api.PrimPush, with(list, api.Nil), "nil", 0},
		{api.PrimPop, with(list), "nil", 0}, {api.PrimPop, with(list), "[5]", 0}, {api.PrimPop, with(list), "5", 0},
		{api.PrimPop, with(list), "", api.FaultRange}, {api.PrimLen, with(list), "0", 0},
		{api.PrimPop, with(list), "", api.FaultRange},
		{api.PrimPush, with(list, 13), "", api.FaultType}, {api.PrimPush, with(list, b.made(tag.Ref(99))), "", api.FaultType},
	})
}

// P9.5: the longest array, and one entry more; FaultType stands ahead of FaultLong.
func TestPushLong(t *testing.T) {
	b := newBench(t, 1)
	list := b.arr(make([]api.Value, api.MaxList-1)...)
	push := func(x api.Value) (api.Value, int) { return Pure(b.h, api.PrimPush, with(list, x)) }
	if v, f := push(api.True); v != api.Nil || f != 0 {
		t.Error(v, f)
	}
	if v, f := push(api.False); v != 0 || f != api.FaultLong {
		t.Error(v, f)
	}
	if v, f := push(13); v != 0 || f != api.FaultType {
		t.Error(v, f)
	}
	if n, _ := b.h.Len(list); n != api.MaxList {
		t.Error(n)
	}
	if v, f := Pure(b.h, api.PrimPop, with(list)); v != api.True || f != 0 {
		t.Error(v, f)
	}
}

// P9.5
func TestKeys(t *testing.T) {
	b := newBench(t, 100)
	r := b.rec("b", "a", "", "a\x00")
	count := b.h.Count()
	v, f := Pure(b.h, api.PrimKeys, with(r))
	if f != 0 || b.look(v) != `["b", "a", "", "a\x00"]` || b.h.Count() != count+5 {
		t.Fatal(b.look(v), f)
	}
	for i, want := range []string{`"b"`, `"a"`, `""`, `"a\x00"`, `["b", "a", "", "a\x00"]`} {
		ref, _ := tag.Ref(count + i)
		if b.look(ref) != want {
			t.Errorf("object %d is %s", i, b.look(ref))
		}
	}
	again, _ := Pure(b.h, api.PrimKeys, with(r))
	first, _ := b.h.At(v, 0)
	other, _ := b.h.At(again, 0)
	if again == v || first == other {
		t.Error("not new")
	}
	b.check([]call{{api.PrimKeys, with(b.rec()), "[]", 0}})
}

// P9.5: strings that were made ahead of FaultHeap stay, in order.
func TestKeysWithoutRoom(t *testing.T) {
	for room := range 4 {
		b := newBench(t, 1+room)
		r := b.rec("x", "y", "z")
		v, f := Pure(b.h, api.PrimKeys, with(r))
		want := "{x: 0, y: 1, z: 2}\n" + strings.Join([]string{"\"x\"\n", "\"y\"\n", "\"z\"\n"}[:room], "")
		if v != 0 || f != api.FaultHeap || b.all() != want {
			t.Errorf("with room for %d: %#x, %d, %s", room, v, f, b.all())
		}
	}
	b := newBench(t, 5)
	if v, f := Pure(b.h, api.PrimKeys, with(b.rec("x", "y", "z"))); f != 0 || b.look(v) != `["x", "y", "z"]` {
		t.Error(b.look(v), f)
	}
}

// P9.5: a key that no string can have; nothing is made.
func TestKeysTooLong(t *testing.T) {
	b := newBench(t, 10)
	long := strings.Repeat("k", api.MaxStr)
	r := b.rec("a", long)
	if v, f := Pure(b.h, api.PrimKeys, with(r)); f != 0 || v == 0 {
		t.Error(v, f)
	}
	count := b.h.Count()
	if f := SetField(b.h, r, long+"k", api.Nil); f != 0 {
		t.Fatal(f)
	}
	if v, f := Pure(b.h, api.PrimKeys, with(r)); v != 0 || f != api.FaultLong || b.h.Count() != count {
		t.Error(v, f)
	}
}

// P9.5
func TestHasGetPut(t *testing.T) {
	b := newBench(t, 100)
	r := b.rec("k", "")
	k, none := b.str("k"), b.str("none")
	b.check([]call{
		{api.PrimHas, with(r, k), "true", 0}, {api.PrimHas, with(r, b.str("")), "true", 0}, {api.PrimHas, with(r, none), "false", 0},
		{api.PrimGet, with(r, k), "0", 0}, {api.PrimGet, with(r, b.str("")), "1", 0}, {api.PrimGet, with(r, none), "nil", 0},
		{api.PrimPut, with(r, k, api.Nil), "nil", 0}, {api.PrimHas, with(r, k), "true", 0}, {api.PrimGet, with(r, k), "nil", 0},
		{api.PrimPut, with(r, none, r), "nil", 0}, {api.PrimText, with(r), `"{k: nil, : 1, none: ^1}"`, 0},
		{api.PrimHas, with(r, none), "true", 0},
		{api.PrimPut, with(r, k, 13), "", api.FaultType}, {api.PrimPut, with(r, b.str("x"), 13), "", api.FaultType},
	})
	full := b.fullRecord()
	b.check([]call{
		{api.PrimPut, with(full, k, api.True), "", api.FaultLong}, {api.PrimPut, with(full, k, 13), "", api.FaultType},
		{api.PrimPut, with(full, b.str("k255"), api.True), "nil", 0}, {api.PrimGet, with(full, b.str("k255")), "true", 0},
		{api.PrimLen, with(full), "256", 0},
	})
}

// P9.5: each kind as each argument that must be of certain kinds.
func TestPureOfKinds(t *testing.T) {
	b := newBench(t, 400)
	r, list, k := b.rec("s"), b.arr(api.Nil), b.str("s")
	for _, c := range []struct {
		name  string
		p     int
		args  func(x api.Value) []api.Value
		kinds string
	}{
		{"len", api.PrimLen, func(x api.Value) []api.Value { return with(x) }, "string array record"},
		{"push", api.PrimPush, func(x api.Value) []api.Value { return with(x, k) }, "array"},
		{"pushed", api.PrimPush, func(x api.Value) []api.Value { return with(list, x) }, kindList},
		{"pop", api.PrimPop, func(x api.Value) []api.Value { return with(x) }, "array"},
		{"keys", api.PrimKeys, func(x api.Value) []api.Value { return with(x) }, "record"},
		{"has", api.PrimHas, func(x api.Value) []api.Value { return with(x, k) }, "record"},
		{"has key", api.PrimHas, func(x api.Value) []api.Value { return with(r, x) }, "string"},
		{"get", api.PrimGet, func(x api.Value) []api.Value { return with(x, k) }, "record"},
		{"get key", api.PrimGet, func(x api.Value) []api.Value { return with(r, x) }, "string"},
		{"put", api.PrimPut, func(x api.Value) []api.Value { return with(x, k, k) }, "record"},
		{"put key", api.PrimPut, func(x api.Value) []api.Value { return with(r, x, k) }, "string"},
		{"put what", api.PrimPut, func(x api.Value) []api.Value { return with(r, k, x) }, kindList},
		{"same", api.PrimSame, func(x api.Value) []api.Value { return with(x, k) }, allWords},
		{"text", api.PrimText, func(x api.Value) []api.Value { return with(x) }, allWords},
		{"cx", api.PrimCx, func(x api.Value) []api.Value { return with(x, tag.Int(1)) }, "int"},
		{"cx too", api.PrimCx, func(x api.Value) []api.Value { return with(tag.Int(1), x) }, "int"},
		{"re", api.PrimRe, func(x api.Value) []api.Value { return with(x) }, "complex"},
		{"im", api.PrimIm, func(x api.Value) []api.Value { return with(x) }, "complex"},
		{"kind", api.PrimKind, func(x api.Value) []api.Value { return with(x) }, kindList},
	} {
		for kind, x := range b.oneOfEach() {
			fits := strings.Contains(" "+c.kinds+" ", " "+kind+" ")
			v, f := Pure(b.h, c.p, c.args(x))
			if fits && f != 0 || !fits && (f != api.FaultType || v != 0) {
				t.Errorf("%s of %s: %#x, %d", c.name, kind, v, f)
			}
		}
	}
}

const (
	kindList = "int nil bool prim string array record cell function complex monitor box thread"
	allWords = kindList + " no value no reference beyond references"
)

// P9.5
func TestSame(t *testing.T) {
	b := newBench(t, 400)
	b.check([]call{
		{api.PrimSame, with(b.str("a"), b.str("a")), "true", 0}, {api.PrimSame, with(b.str("a"), b.str("b")), "false", 0},
		{api.PrimSame, with(b.arr(tag.Int(1)), b.arr(tag.Int(1))), "true", 0},
		{api.PrimSame, with(b.arr(tag.Int(1)), b.arr(tag.Int(2))), "false", 0},
		{api.PrimSame, with(tag.Int(1), b.cx(1, 0)), "false", 0}, {api.PrimSame, with(api.Nil, api.Nil), "true", 0},
		{api.PrimSame, with(13, 13), "true", 0}, {api.PrimSame, with(13, 17), "false", 0},
	})
}

// P9.5: more than MaxPairs pairs is FaultLong: two arrays of as many arrays that are pairwise alike, but another one.
func TestSameLong(t *testing.T) {
	b := newBench(t, 600)
	var left, right []api.Value
	for range 257 {
		left, right = append(left, b.arr()), append(right, b.arr())
	}
	// Each pair is met once, whatever the order: 256 times 256 pairs below, and the one above.
	var x, y []api.Value
	for i := range 256 {
		for j := range 256 {
			x, y = append(x, left[i]), append(y, right[j])
		}
	}
	a, c := b.arr(x[1:]...), b.arr(y[1:]...)
	if v, f := Pure(b.h, api.PrimSame, with(a, c)); v != api.True || f != 0 {
		t.Error(v, f)
	}
	a, c = b.arr(x...), b.arr(y...)
	if v, f := Pure(b.h, api.PrimSame, with(a, c)); v != 0 || f != api.FaultLong {
		t.Error(v, f)
	}
}

// P9.5: text tells what show.Text tells, as a new string.
func TestText(t *testing.T) {
	b := newBench(t, 400)
	for name, x := range b.oneOfEach() {
		want, _ := show.Text(b.h, x)
		count := b.h.Count()
		v, f := Pure(b.h, api.PrimText, with(x))
		got, _ := b.h.Bytes(v)
		if f != 0 || string(got) != string(want) || b.h.Count() != count+1 {
			t.Errorf("text of %s: %q, %d", name, got, f)
		}
	}
	s := b.str("s")
	b.check([]call{{api.PrimText, with(s), `"\"s\""`, 0}, {api.PrimText, with(13), `"?"`, 0}, {api.PrimText, with(tag.Int(-5)), `"-5"`, 0}})
}

// P9.5: the longest text, and one byte more; FaultLong stands ahead of FaultHeap.
func TestTextLong(t *testing.T) {
	b := newBench(t, 3)
	most := b.str(strings.Repeat("a", api.MaxShow-2))
	more := b.str(strings.Repeat("a", api.MaxShow-1))
	if v, f := Pure(b.h, api.PrimText, with(more)); v != 0 || f != api.FaultLong || b.h.Count() != 2 {
		t.Error(v, f)
	}
	v, f := Pure(b.h, api.PrimText, with(most))
	if n, _ := b.h.Len(v); f != 0 || n != api.MaxShow {
		t.Error(n, f)
	}
	if v, f := Pure(b.h, api.PrimText, with(more)); v != 0 || f != api.FaultLong {
		t.Error(v, f)
	}
	if v, f := Pure(b.h, api.PrimText, with(most)); v != 0 || f != api.FaultHeap {
		t.Error(v, f)
	}
}

// P9.5
func TestComplexParts(t *testing.T) {
	b := newBench(t, 400)
	n := tag.Int
	b.check([]call{
		{api.PrimCx, with(n(1), n(-2)), "(3ff0000000000000,c000000000000000)", 0},
		{api.PrimCx, with(n(0), n(0)), "(0000000000000000,0000000000000000)", 0},
		{api.PrimCx, with(n(api.MaxInt), n(api.MinInt)), "(43c0000000000000,c3c0000000000000)", 0},
		{api.PrimCx, with(n(1<<53+1), n(1<<53+3)), "(4340000000000000,4340000000000002)", 0},
		{api.PrimRe, with(b.cx(3, 4)), "3", 0}, {api.PrimIm, with(b.cx(3, 4)), "4", 0},
		{api.PrimRe, with(b.cx(-3.9, 4)), "-3", 0}, {api.PrimIm, with(b.cx(3, 0.9)), "0", 0},
		{api.PrimRe, with(b.cx(api.MinInt, 0)), "-2305843009213693952", 0},
		{api.PrimRe, with(b.cx(1<<61, 0)), "", api.FaultRange}, {api.PrimIm, with(b.cx(1<<61, 7)), "7", 0},
		{api.PrimIm, with(b.cx(0, 1<<61)), "", api.FaultRange}, {api.PrimRe, with(b.cx(7, math.NaN())), "7", 0},
		{api.PrimRe, with(b.cx(math.NaN(), 0)), "", api.FaultRange}, {api.PrimIm, with(b.cx(0, math.Inf(-1))), "", api.FaultRange},
		{api.PrimRe, with(n(3)), "", api.FaultType}, {api.PrimIm, with(n(3)), "", api.FaultType},
	})
}

// P9.5
func TestKind(t *testing.T) {
	b := newBench(t, 400)
	for kind, x := range b.oneOfEach() {
		count := b.h.Count()
		v, f := Pure(b.h, api.PrimKind, with(x))
		if !strings.Contains(" "+kindList+" ", " "+kind+" ") {
			if v != 0 || f != api.FaultType || b.h.Count() != count {
				t.Errorf("kind of %s: %#x, %d", kind, v, f)
			}
			continue
		}
		if f != 0 || b.look(v) != `"`+kind+`"` || b.h.Count() != count+1 {
			t.Errorf("kind of %s: %s, %d", kind, b.look(v), f)
		}
	}
	b.check([]call{{api.PrimKind, with(api.False), `"bool"`, 0}, {api.PrimKind, with(0), `"int"`, 0}})
}

// P9.5: with a full heap those that make something say so; the others do what they do. FaultType stands ahead.
func TestPureWithoutRoom(t *testing.T) {
	b := newBench(t, 4)
	list, r, k, z := b.arr(), b.rec("k"), b.str("k"), b.cx(1, 2)
	b.check([]call{
		{api.PrimKeys, with(r), "", api.FaultHeap}, {api.PrimText, with(k), "", api.FaultHeap},
		{api.PrimCx, with(tag.Int(1), tag.Int(2)), "", api.FaultHeap}, {api.PrimKind, with(k), "", api.FaultHeap},
		{api.PrimKind, with(13), "", api.FaultType}, {api.PrimCx, with(k, k), "", api.FaultType},
		{api.PrimKeys, with(list), "", api.FaultType},
		{api.PrimLen, with(list), "0", 0}, {api.PrimPush, with(list, k), "nil", 0}, {api.PrimPop, with(list), `"k"`, 0},
		{api.PrimHas, with(r, k), "true", 0}, {api.PrimGet, with(r, k), "0", 0}, {api.PrimPut, with(r, k, z), "nil", 0},
		{api.PrimSame, with(list, r), "false", 0}, {api.PrimRe, with(z), "1", 0}, {api.PrimIm, with(z), "2", 0},
	})
}

// P9.5: what is handed in is not kept: writing over it changes no object.
func TestPureKeepsNoArguments(t *testing.T) {
	b := newBench(t, 10)
	list := b.arr()
	args := with(list, tag.Int(1))
	if _, f := Pure(b.h, api.PrimPush, args); f != 0 {
		t.Fatal(f)
	}
	args[0], args[1] = 13, 13
	if b.look(list) != "[1]" {
		t.Error(b.look(list))
	}
}
