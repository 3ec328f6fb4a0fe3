package prim

import (
	"math"
	"strconv"
	"strings"
	"testing"

	"jacquard/api"
	"jacquard/tag"
)

// P9.4
func TestIndex(t *testing.T) {
	b := newBench(t, 100)
	list := b.arr(tag.Int(5), api.Nil, b.str("x"))
	word := b.str("a\x00\xff")
	rec := b.rec("k", "", "a\x00")
	for _, c := range []struct {
		a, i api.Value
		want string
		f    int
	}{
		{list, tag.Int(0), "5", 0}, {list, tag.Int(1), "nil", 0}, {list, tag.Int(2), `"x"`, 0},
		{list, tag.Int(3), "", api.FaultRange}, {list, tag.Int(-1), "", api.FaultRange},
		{list, tag.Int(api.MaxInt), "", api.FaultRange}, {list, tag.Int(api.MinInt), "", api.FaultRange},
		{b.arr(), tag.Int(0), "", api.FaultRange}, {b.arr(tag.Int(5)), tag.Int(1), "", api.FaultRange},
		{list, word, "", api.FaultType}, {list, api.Nil, "", api.FaultType}, {list, api.False, "", api.FaultType},
		{list, b.cx(0, 0), "", api.FaultType}, {list, 2, "", api.FaultType}, {list, 3, "", api.FaultType},
		{word, tag.Int(0), "97", 0}, {word, tag.Int(1), "0", 0}, {word, tag.Int(2), "255", 0},
		{word, tag.Int(3), "", api.FaultRange}, {word, tag.Int(-1), "", api.FaultRange},
		{b.str(""), tag.Int(0), "", api.FaultRange}, {word, word, "", api.FaultType}, {word, api.True, "", api.FaultType},
		{rec, b.str("k"), "0", 0}, {rec, b.str(""), "1", 0}, {rec, b.str("a\x00"), "2", 0},
		{rec, b.str("a"), "", api.FaultField}, {rec, b.str("K"), "", api.FaultField}, {b.rec(), b.str(""), "", api.FaultField},
		{rec, tag.Int(0), "", api.FaultType}, {rec, rec, "", api.FaultType}, {rec, api.Nil, "", api.FaultType},
	} {
		before := b.all()
		v, f := Index(b.h, c.a, c.i)
		if f != c.f || f != 0 && v != 0 || f == 0 && b.look(v) != c.want || b.all() != before {
			t.Errorf("Index(%s, %s) = %s, %d, not %s, %d", b.look(c.a), b.look(c.i), b.look(v), f, c.want, c.f)
		}
	}
}

// P9.4: what is told is what is there, not another object that looks so.
func TestIndexTellsTheSameObject(t *testing.T) {
	b := newBench(t, 10)
	inner := b.arr()
	list := b.arr(inner)
	rec := b.rec("k")
	if f := SetField(b.h, rec, "k", inner); f != 0 {
		t.Fatal(f)
	}
	at, _ := Index(b.h, list, tag.Int(0))
	under, _ := Index(b.h, rec, b.str("k"))
	field, _ := Field(b.h, rec, "k")
	if at != inner || under != inner || field != inner {
		t.Error(at, under, field, inner)
	}
}

// P9.4: every kind as what is indexed, and every kind as the index.
func TestPlacesOfKinds(t *testing.T) {
	b := newBench(t, 100)
	each := b.oneOfEach()
	for x, a := range each {
		for y, i := range each {
			before := b.all()
			v, f := Index(b.h, a, i)
			want := api.FaultType
			switch {
			case y == "int" && (x == "array" || x == "string"):
				want = api.FaultRange
			case y == "string" && x == "record":
				want = api.FaultField
			}
			if v != 0 || f != want || b.all() != before {
				t.Errorf("Index(%s, %s) = %#x, %d", x, y, v, f)
			}
			if x == "record" && y == "string" {
				continue
			}
			if x == "string" {
				want = api.FaultType
			}
			if f := SetIndex(b.h, a, i, api.Nil); f != want || b.all() != before {
				t.Errorf("SetIndex(%s, %s) = %d", x, y, f)
			}
		}
		if x == "record" {
			continue
		}
		before := b.all()
		if v, f := Field(b.h, a, "k"); v != 0 || f != api.FaultType {
			t.Errorf("Field(%s) = %#x, %d", x, v, f)
		}
		if f := SetField(b.h, a, "k", api.Nil); f != api.FaultType || b.all() != before {
			t.Errorf("SetField(%s) = %d", x, f)
		}
	}
}

// P9.4
func TestSetIndex(t *testing.T) {
	b := newBench(t, 100)
	list := b.arr(tag.Int(5), tag.Int(6))
	rec := b.rec("k")
	for _, c := range []struct {
		a, i, x api.Value
		f       int
		want    string
	}{
		{list, tag.Int(0), api.True, 0, "[true, 6]"},
		{list, tag.Int(1), list, 0, "[true, ^1]"},
		{list, tag.Int(2), api.True, api.FaultRange, "[true, ^1]"},
		{list, tag.Int(-1), api.True, api.FaultRange, "[true, ^1]"},
		{list, tag.Int(api.MinInt), api.True, api.FaultRange, "[true, ^1]"},
		{list, b.str("0"), api.True, api.FaultType, "[true, ^1]"},
		{rec, b.str("k"), api.Nil, 0, "{k: nil}"},
		{rec, b.str("a"), tag.Int(1), 0, "{k: nil, a: 1}"},
		{rec, b.str("k"), tag.Int(2), 0, "{k: 2, a: 1}"},
		{rec, tag.Int(0), tag.Int(3), api.FaultType, "{k: 2, a: 1}"},
		{b.str("ab"), tag.Int(0), tag.Int(3), api.FaultType, `"ab"`},
		{b.str("ab"), tag.Int(9), tag.Int(3), api.FaultType, `"ab"`},
		{b.made(b.h.Cell(api.Nil)), tag.Int(0), tag.Int(3), api.FaultType, "&nil"},
	} {
		if f := SetIndex(b.h, c.a, c.i, c.x); f != c.f || b.look(c.a) != c.want {
			t.Errorf("SetIndex(%s, %s, %#x) = %d: %s", c.want, b.look(c.i), c.x, f, b.look(c.a))
		}
	}
}

// P9.4: a word that cannot be kept is not written; FaultRange and FaultLong stand ahead of FaultType.
func TestWordsThatCannotBeKept(t *testing.T) {
	b := newBench(t, 100)
	list, rec, full := b.arr(tag.Int(5)), b.rec("k"), b.fullRecord()
	key, other := b.str("k"), b.str("other")
	before := b.all()
	for _, x := range []api.Value{13, math.MaxUint64, b.made(tag.Ref(b.h.Count()))} {
		for _, c := range []struct{ got, want int }{
			{SetIndex(b.h, list, tag.Int(0), x), api.FaultType},
			{SetIndex(b.h, list, tag.Int(1), x), api.FaultRange},
			{SetIndex(b.h, rec, key, x), api.FaultType},
			{SetIndex(b.h, rec, other, x), api.FaultType},
			{SetIndex(b.h, full, other, x), api.FaultLong},
			{SetField(b.h, full, "k7", x), api.FaultType},
			{SetField(b.h, full, "k256", x), api.FaultLong},
			{SetField(b.h, list, "k", x), api.FaultType},
		} {
			if c.got != c.want {
				t.Errorf("%#x: %d, not %d", x, c.got, c.want)
			}
		}
	}
	if b.all() != before {
		t.Error("something was written")
	}
}

// fullRecord has the keys k0 to k255.
func (b *bench) fullRecord() api.Value {
	var keys []string
	for i := range api.MaxFields {
		keys = append(keys, "k"+strconv.Itoa(i))
	}
	return b.rec(keys...)
}

// P9.4: a record with all the fields that there may be, and one more.
func TestFullRecord(t *testing.T) {
	b := newBench(t, 100)
	r := b.rec()
	for i := range api.MaxFields {
		if f := SetField(b.h, r, "k"+strconv.Itoa(i), tag.Int(i)); f != 0 {
			t.Fatal(i, f)
		}
	}
	before := b.all()
	if f := SetField(b.h, r, "k256", api.Nil); f != api.FaultLong || b.all() != before {
		t.Error(f)
	}
	if f := SetIndex(b.h, r, b.str("more"), api.Nil); f != api.FaultLong {
		t.Error(f)
	}
	if f := SetField(b.h, r, "k255", api.Nil); f != 0 {
		t.Error(f)
	}
	if f := SetIndex(b.h, r, b.str("k0"), api.True); f != 0 {
		t.Error(f)
	}
	first, _ := Field(b.h, r, "k0")
	last, _ := Field(b.h, r, "k255")
	if first != api.True || last != api.Nil || !strings.HasSuffix(b.look(r), ", k255: nil}") {
		t.Error(first, last)
	}
}

// P9.4
func TestField(t *testing.T) {
	b := newBench(t, 100)
	r := b.rec("k", "")
	for key, want := range map[string]api.Value{"k": tag.Int(0), "": tag.Int(1)} {
		if v, f := Field(b.h, r, key); v != want || f != 0 {
			t.Errorf("Field(%q) = %#x, %d", key, v, f)
		}
	}
	for _, key := range []string{"K", "kk", "k\x00", "none"} {
		if v, f := Field(b.h, r, key); v != 0 || f != api.FaultField {
			t.Errorf("Field(%q) = %#x, %d", key, v, f)
		}
	}
	if f := SetField(b.h, r, "k", r); f != 0 || b.look(r) != "{k: ^1, : 1}" {
		t.Error(f, b.look(r))
	}
	if f := SetField(b.h, r, "new", api.Nil); f != 0 || b.look(r) != "{k: ^1, : 1, new: nil}" {
		t.Error(f, b.look(r))
	}
}

// P9.4: nothing is made, so that a full heap is no matter.
func TestPlacesWithoutRoom(t *testing.T) {
	b := newBench(t, 3)
	list, rec, key := b.arr(tag.Int(1)), b.rec(), b.str("k")
	if f := SetIndex(b.h, list, tag.Int(0), rec); f != 0 {
		t.Error(f)
	}
	if f := SetIndex(b.h, rec, key, list); f != 0 {
		t.Error(f)
	}
	if f := SetField(b.h, rec, "other", key); f != 0 {
		t.Error(f)
	}
	if v, f := Index(b.h, key, tag.Int(0)); v != tag.Int('k') || f != 0 {
		t.Error(v, f)
	}
	if b.h.Count() != 3 || b.look(list) != `[{k: ^2, other: "k"}]` {
		t.Error(b.look(list))
	}
}
