package show

import (
	"bytes"
	"fmt"
	"math"
	"strings"
	"testing"

	"jacquard/api"
	"jacquard/tag"
)

// P4.3: every byte, and what stands about them all.
func TestQuoteEveryByte(t *testing.T) {
	var all []byte
	want := ""
	for c := range 256 {
		one := fmt.Sprintf("\\x%02x", c)
		if c >= 0x20 && c < 0x7f {
			one = string(rune(c))
		}
		switch c {
		case 0x09:
			one = "\\t"
		case 0x0a:
			one = "\\n"
		case 0x22, 0x5c:
			one = "\\" + one
		}
		if got := Quote([]byte{byte(c)}); string(got) != `"`+one+`"` {
			t.Errorf("Quote of %02x: %s, not %s", c, got, one)
		}
		all = append(all, byte(c))
		want += one
	}
	if got := Quote(all); string(got) != `"`+want+`"` {
		t.Errorf("Quote of all bytes: %s", got)
	}
}

// P4.3: written out.
func TestQuote(t *testing.T) {
	for _, c := range []struct{ text, want string }{
		{"", `""`},
		{"a", `"a"`},
		{"A\n\xff", `"A\n\xff"`},
		{"\t\r\x00", `"\t\x0d\x00"`},
		{`"\`, `"\"\\"`},
		{`\n`, `"\\n"`},
		{" ~\x1f\x7f\x80", `" ~\x1f\x7f\x80"`},
		{"it's", `"it's"`},
		{"\u00e4\u4e16", `"\xc3\xa4\xe4\xb8\x96"`},
		{"[{^&?}]", `"[{^&?}]"`},
	} {
		if got := Quote([]byte(c.text)); string(got) != c.want {
			t.Errorf("Quote of %q: %s, not %s", c.text, got, c.want)
		}
	}
	if got := Quote(nil); string(got) != `""` {
		t.Errorf("Quote of nothing: %s", got)
	}
}

// P4.3: Quote has no bound of its own; what is handed in stays as it is, and what is told is new.
func TestQuoteMemory(t *testing.T) {
	if got := Quote(make([]byte, 2*api.MaxShow)); len(got) != 8*api.MaxShow+2 {
		t.Error(len(got))
	}
	b := append(make([]byte, 0, 99), `a"b`...)
	whole := b[:cap(b)]
	kept := bytes.Clone(whole)
	one, two := Quote(b), Quote(b)
	if !bytes.Equal(whole, kept) {
		t.Errorf("%q has become %q", kept, whole)
	}
	for _, l := range [][]byte{one, whole} {
		l = l[:cap(l)]
		for i := range l {
			l[i] = 'z'
		}
	}
	if string(two) != `"a\"b"` {
		t.Errorf("%s", two)
	}
}

func (m maker) text(v api.Value, want string) {
	m.t.Helper()
	if got, e := Text(m.h, v); string(got) != want || e != api.OK {
		m.t.Errorf("%.200q, %d, not %.200q", got, e, want)
	}
}

func (m maker) tooLong(name string, v api.Value) {
	m.t.Helper()
	if got, e := Text(m.h, v); len(got) != 0 || e != api.ErrLong {
		m.t.Errorf("%s: %d bytes, %d", name, len(got), e)
	}
}

// P4.4
func TestText(t *testing.T) {
	m := newMaker(t)
	prim, _ := tag.Prim(17)
	most, _ := tag.Prim(api.MaxRef)
	s := m.str("a\"\n")
	for _, c := range []struct {
		v    api.Value
		want string
	}{
		{tag.Int(0), "0"},
		{tag.Int(7), "7"},
		{tag.Int(-10), "-10"},
		{tag.Int(api.MaxInt), "2305843009213693951"},
		{tag.Int(api.MinInt), "-2305843009213693952"},
		{api.Nil, "nil"},
		{api.False, "false"},
		{api.True, "true"},
		{prim, "prim:17"},
		{3, "prim:0"},
		{most, "prim:2147483647"},
		{s, `"a\"\n"`},
		{m.str(""), `""`},
		{m.arr(), "[]"},
		{m.arr(4), "[1]"},
		{m.arr(tag.Int(1), m.str("a"), api.Nil), `[1, "a", nil]`},
		{m.arr(m.arr(), m.arr(m.arr(8))), "[[], [[2]]]"},
		{m.rec(nil), "{}"},
		{m.rec([]string{"x"}, api.True), "{x: true}"},
		{m.rec([]string{"b", "a", "c"}, s, tag.Int(-1), m.rec(nil)), `{b: "a\"\n", a: -1, c: {}}`},
		{m.rec([]string{"", "\"\n\xff", "x: 1, y"}, 0, 4, 8), "{: 0, \"\n\xff: 1, x: 1, y: 2}"},
		{m.cell(tag.Int(5)), "&5"},
		{m.cell(m.cell(m.arr(m.cell(api.Nil)))), "&&[&nil]"},
		{m.fun(0), "fn:0"},
		{m.fun(1023, s, m.cell(4)), "fn:1023"},
		{m.fun(math.MaxInt), "fn:9223372036854775807"},
		{m.cplx(0, 0), "(0000000000000000,0000000000000000)"},
		{m.cplx(0xabcdef, 1<<63), "(0000000000abcdef,8000000000000000)"},
		{m.cplx(math.MaxUint64, math.Float64bits(1)), "(ffffffffffffffff,3ff0000000000000)"},
		{m.item(api.ObjMon, 0), "monitor:0"},
		{m.item(api.ObjBox, 12), "box:12"},
		{m.item(api.ObjThr, math.MaxInt), "thread:9223372036854775807"},
		{m.arr(prim, m.fun(2), m.cplx(1, 2), m.item(api.ObjBox, 3)), "[prim:17, fn:2, (0000000000000001,0000000000000002), box:3]"},
	} {
		m.text(c.v, c.want)
	}
}

// P4.4: words that are no values, and references that are not good.
func TestTextOfNoValues(t *testing.T) {
	m := newMaker(t)
	check := func() {
		t.Helper()
		for _, v := range m.noObjects()[11:] {
			m.text(v, "?")
		}
	}
	m.text(2, "?")
	check()
	m.zoo()
	check()
	m.text(2, `"abc"`)
}

// P4.4: what is within itself.
func TestTextRound(t *testing.T) {
	m := newMaker(t)
	self := m.arr(0)
	m.set(self, 0, self)
	m.text(self, "[^1]")
	m.text(m.arr(self), "[[^1]]")
	r := m.rec([]string{"me", "n"}, 0, 4)
	m.put(r, "me", r)
	m.text(r, "{me: ^1, n: 1}")
	c := m.ring(1)
	m.text(c, "&^1")
	m.text(m.ring(3), "&&&^3")

	a := m.arr(0, 4)
	cell := m.cell(a)
	rec := m.rec([]string{"c"}, cell)
	m.set(a, 0, rec)
	m.text(a, "[{c: &^3}, 1]")
	m.text(rec, "{c: &[^3, 1]}")
	m.text(cell, "&[{c: ^3}, 1]")
	m.set(a, 1, cell)
	m.text(a, "[{c: &^3}, &^2]")
	m.put(rec, "a", a)
	m.put(rec, "r", rec)
	m.text(a, "[{c: &^3, a: ^2, r: ^1}, &^2]")
	m.text(rec, "{c: &[^3, ^2], a: [^2, &^2], r: ^1}")
	m.text(m.arr(self, rec, self), "[[^1], {c: &[^3, ^2], a: [^2, &^2], r: ^1}, [^1]]")
}

// P4.4: only arrays, records and cells that one is within count; one that comes again, not within itself, is shown.
func TestTextWithin(t *testing.T) {
	m := newMaker(t)
	one := m.arr(4)
	m.text(m.arr(one, one, m.cell(one)), "[[1], [1], &[1]]")
	r := m.rec([]string{"x"}, one)
	m.text(m.arr(r, one, r), "[{x: [1]}, [1], {x: [1]}]")
	s := m.str("s")
	m.text(m.arr(s, m.arr(s)), `["s", ["s"]]`)
	// A function is not gone into, though it has what it is in.
	a := m.arr(0)
	m.set(a, 0, m.fun(3, a, m.cell(a)))
	m.text(a, "[fn:3]")
	outer := m.arr(0)
	deep := outer
	for range 11 {
		deep = m.arr(deep)
	}
	m.set(outer, 0, deep)
	m.text(outer, strings.Repeat("[", 12)+"^12"+strings.Repeat("]", 12))
	m.text(deep, strings.Repeat("[", 12)+"^12"+strings.Repeat("]", 12))
}

// P4.4: MaxShow bytes, and one more.
func TestTextLong(t *testing.T) {
	m := newMaker(t)
	most := strings.Repeat("a", api.MaxShow-2)
	m.text(m.str(most), `"`+most+`"`)
	m.tooLong("a string", m.str(most+"a"))
	m.tooLong("a string whose last byte takes two", m.str(most[1:]+"\n"))
	m.text(m.str(most[2:]+"\n"), `"`+most[2:]+`\n"`)
	m.tooLong("the longest string", m.str(strings.Repeat("a", api.MaxStr)))
	m.tooLong("noughts, four bytes each", m.str(string(make([]byte, api.MaxShow/4))))

	most = most[2:]
	s, longer := m.str(most), m.str(most+"a")
	m.text(m.arr(s), `["`+most+`"]`)
	m.tooLong("an array", m.arr(longer))
	m.tooLong("an array's second entry", m.arr(s, 0))
	m.text(m.cell(longer), `&"`+most+`a"`)
	m.tooLong("a cell", m.cell(m.cell(longer)))
	less := m.str(most[3:])
	m.text(m.rec([]string{"x"}, less), `{x: "`+most[3:]+`"}`)
	m.tooLong("a record's key", m.rec([]string{"xx"}, less))
	m.text(m.rec([]string{most[1:]}, 0), "{"+most[1:]+": 0}")
	m.tooLong("a long key", m.rec([]string{most}, 0))
	m.tooLong("a key beyond all bounds", m.rec([]string{strings.Repeat("k", 3*api.MaxShow)}, 0))
}

// P4.4: MaxShow bytes, and one more, of many parts.
func TestTextLongOfParts(t *testing.T) {
	m := newMaker(t)
	// [0, 0, .. 0] has three bytes for each entry.
	n := api.MaxShow / 3
	l := make([]api.Value, n+1)
	m.text(m.arr(l[:n]...), "["+strings.Repeat("0, ", n-1)+"0]")
	l[0] = tag.Int(-1)
	m.text(m.arr(l[:n]...), "[-1"+strings.Repeat(", 0", n-1)+"]")
	l[0] = tag.Int(-10)
	m.tooLong("one digit more", m.arr(l[:n]...))
	l[0] = 0
	m.tooLong("one entry more", m.arr(l...))
	round := m.arr(l[:n-1]...)
	if e := m.h.Push(round, round); e != api.OK {
		t.Fatal(e)
	}
	m.text(round, "["+strings.Repeat("0, ", n-1)+"^1]")
	m.set(round, 0, tag.Int(10))
	m.tooLong("with ^", round)
}

// P4.4: deep in one another, as far as the heap goes.
func TestTextNested(t *testing.T) {
	m := newMaker(t)
	inner := m.cell(tag.Int(1))
	outer := m.tail(api.MaxShow-2, inner)
	m.text(outer, strings.Repeat("&", api.MaxShow-1)+"1")
	m.tooLong("one more", m.cell(outer))
	m.set(inner, 0, tag.Int(10))
	m.tooLong("one digit more", outer)
	m.set(inner, 0, outer)
	m.tooLong("a ring", outer)
}

// P4.4: a ring that is shown to its end has ^ and many digits.
func TestTextRing(t *testing.T) {
	m := newMaker(t)
	const n = api.MaxShow - 6
	m.text(m.ring(n), strings.Repeat("&", n)+"^65530")
	m = newMaker(t)
	m.tooLong("one more", m.ring(n+1))
}

// Rule 'Ends': what would be far too long is broken off.
func TestTextBrokenOff(t *testing.T) {
	m := newMaker(t)
	a, r := m.arr(), m.rec(nil)
	for range 100 {
		a = m.arr(a, a)
		r = m.rec([]string{"", "x"}, r, r)
	}
	m.tooLong("arrays", a)
	m.tooLong("records", r)
	// All are within all: there are more ways than can be gone.
	l := make([]api.Value, 40)
	for i := range l {
		l[i] = m.arr()
	}
	for _, a := range l {
		for _, b := range l {
			if e := m.h.Push(a, b); e != api.OK {
				t.Fatal(e)
			}
		}
	}
	m.tooLong("all within all", l[0])
}

// Rule 'Memory': what is told is new, each time.
func TestTextMemory(t *testing.T) {
	m := newMaker(t)
	s := m.str("abc")
	for _, v := range []api.Value{s, m.arr(s), m.rec([]string{"k"}, s), api.Nil, 13} {
		one, _ := Text(m.h, v)
		two, _ := Text(m.h, v)
		want := string(two)
		l := one[:cap(one)]
		for i := range l {
			l[i] = 'z'
		}
		if string(two) != want {
			t.Errorf("%q has become %q", want, two)
		}
		m.text(v, want)
	}
}
