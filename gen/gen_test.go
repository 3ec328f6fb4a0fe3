package gen

import (
	"fmt"
	"math/rand"
	"reflect"
	"slices"
	"strings"
	"testing"

	"jacquard/api"
	"jacquard/code"
	"jacquard/scope"
)

// The chapter's examples.
func TestExamples(t *testing.T) {
	checkRefused(t, []refused{{"x;", api.ErrNone, 0}, {"({a: 1, a: 2});", api.ErrTwice, 8}})
	if n, e := Need(parsed(t, "1 + 2 * 3;"), 2); n != 3 || e != api.OK {
		t.Error(n, e)
	}
}

// boxesOf are the parameters of a function that are taken by another one.
func boxesOf(s api.Scope, f int) []int {
	var boxes []int
	for p := range s.Funs[f].Params {
		if s.Uses[s.Funs[f].Node+1+p].Where == api.UseCell {
			boxes = append(boxes, p)
		}
	}
	return boxes
}

// checkByScope: an image has what its program's Scope has.
func checkByScope(t *testing.T, l []api.Node) api.Image {
	t.Helper()
	s, e, _ := scope.Resolve(l)
	if e != api.OK {
		t.Fatal(e)
	}
	im := compiled(t, l)
	if len(im.Funs) != len(s.Funs) || im.Globals != len(s.Globals) {
		t.Fatalf("%s: %d functions, %d globals", brief(l), len(im.Funs), im.Globals)
	}
	for f, c := range im.Funs {
		want := s.Funs[f]
		if c.Params != want.Params || c.Slots < want.Slots || !slices.Equal(c.Caps, want.Caps) || !slices.Equal(c.Boxes, boxesOf(s, f)) {
			t.Fatalf("%s: function %d: %+v, not %+v", brief(l), f, c, want)
		}
	}
	return im
}

// P12.5
func TestImageByScope(t *testing.T) {
	im := checkByScope(t, parsed(t, "var x = 1; fn f(a, b, c) { var d = 4; return fn (u) { return fn () { return c + a + d + x; }; }; } var y = 2;"))
	if len(im.Funs) != 4 || im.Globals != 3 {
		t.Fatalf("%+v", im)
	}
	if f := im.Funs[1]; f.Params != 3 || fmt.Sprint(f.Boxes) != "[0 2]" || len(f.Caps) != 0 {
		t.Errorf("%+v", f)
	}
	if f := im.Funs[2]; f.Params != 1 || len(f.Boxes) != 0 || fmt.Sprint(f.Caps) != "[{1 2} {1 0} {1 3}]" {
		t.Errorf("%+v", f)
	}
	if f := im.Funs[3]; f.Params != 0 || fmt.Sprint(f.Caps) != "[{0 0} {0 1} {0 2}]" {
		t.Errorf("%+v", f)
	}
	names := "a, b, c, d, e, f, g, h, i, j, k, l, m, n, o, p"
	im = checkByScope(t, parsed(t, "fn z("+names+") { return fn () { return ["+names+"]; }; }"))
	if len(im.Funs[1].Boxes) != 16 {
		t.Errorf("%+v", im)
	}
	checkByScope(t, parsed(t, ""))
	d := &drawer{Rand: rand.New(rand.NewSource(124))}
	for n := range 1500 {
		checkByScope(t, d.program(2+n%5, 0))
	}
}

// told is an image as a text, in which nil and empty lists are alike.
func told(im api.Image) string { return fmt.Sprintf("%+v", im) }

// E4: what is made can be told as bytes.
func TestImagesAsBytes(t *testing.T) {
	d := &drawer{Rand: rand.New(rand.NewSource(125))}
	for n := range 500 {
		im := compiled(t, d.program(2+n%5, 0))
		b, e := code.Encode(im)
		if e != api.OK {
			t.Fatal(e)
		}
		back, e, _ := code.Decode(b)
		if e != api.OK || told(back) != told(im) {
			t.Fatalf("%+v, not %+v", back, im)
		}
	}
}

// P12.5: texts with as many tokens as there may be, of what makes much code of few.
func TestLongestTexts(t *testing.T) {
	for _, c := range []struct {
		ahead, piece string
		tokens       int // of the piece
	}{
		{"fn f() { }", "f();", 4}, {"", "[];", 3}, {"", "1;", 2}, {"", "while 1 { }", 4}, {"", "if 1 { } else { }", 7},
		{"var x = 1;", "x = x;", 4}, {"", "nil and nil;", 4}, {"", "{ }", 2}, {"", "print(1, 2);", 7}, {"", "\"\";", 2}, {"", "--1;", 4}, {"", "throw 1;", 3},
	} {
		pieces := (api.MaxTokens - 8) / c.tokens
		text := c.ahead + strings.Repeat(c.piece, pieces)
		if len(text) > api.MaxSource {
			t.Fatal(c.piece, len(text))
		}
		im := compiled(t, parsed(t, text))
		if b, e := code.Encode(im); e != api.OK || len(im.Funs[0].Code) > api.MaxCode {
			t.Error(c.piece, len(b), e)
		}
	}
}

// lists are all of an image's lists of numbers, with their spare room.
func lists(im api.Image) (l [][]int) {
	for _, f := range im.Funs {
		l = append(l, f.Boxes[:cap(f.Boxes)])
	}
	for _, k := range im.Keys {
		l = append(l, k[:cap(k)])
	}
	return l
}

// mark writes a number into all of an image but its texts.
func mark(im api.Image, n int) {
	for _, l := range lists(im) {
		for i := range l {
			l[i] = n
		}
	}
	for f := range im.Funs {
		c := &im.Funs[f]
		for i := range c.Caps[:cap(c.Caps)] {
			c.Caps[:cap(c.Caps)][i] = api.Cap{Own: n, N: n}
		}
		for i := range c.Code[:cap(c.Code)] {
			c.Code[:cap(c.Code)][i] = api.Instr{Op: n, A: n, B: n}
		}
		for i := range c.Tries[:cap(c.Tries)] {
			c.Tries[:cap(c.Tries)][i] = api.Try{From: n, To: n, Target: n, Depth: n}
		}
	}
	clear(im.Strs[:cap(im.Strs)])
}

// Rules, Memory and From arguments alone: what is handed in stays as it is, and answers share nothing.
func TestMemory(t *testing.T) {
	text := "fn f(a, b) { try { return {x: a, y: {x: b}}; } catch e { return fn () { return fn () { return [a, b, e]; }; }; } } print({y: 1}); fn g(c) { return fn () { c = f; }; }"
	l := parsed(t, text)
	spare := append(slices.Clone(l), api.Node{Kind: 5, N: 6, Text: "spare", Num: 7, At: 8})
	kept := slices.Clone(spare)
	first := compiled(t, spare[:len(l)])
	want := told(first)
	second := compiled(t, spare[:len(l)])
	for at := range l {
		Need(spare[:len(l)], at)
	}
	if !reflect.DeepEqual(spare, kept) {
		t.Error("what was handed in has changed")
	}
	mark(first, 77)
	if told(second) != want || told(compiled(t, l)) != want {
		t.Error("answers share something")
	}
	clear(spare)
	if told(second) != want {
		t.Error("what was handed in is kept")
	}
	all := lists(second)
	for n, l := range all {
		for i := range l {
			l[i] = 1000 + n
		}
	}
	for n, l := range all {
		for _, x := range l {
			if x != 1000+n {
				t.Error("lists of one answer share something")
			}
		}
	}
	for f, c := range second.Funs {
		for g, d := range second.Funs {
			if f != g && (shares(c.Code, d.Code) || shares(c.Caps, d.Caps) || shares(c.Tries, d.Tries)) {
				t.Error("lists of one answer share something")
			}
		}
	}
}

// shares: have both lists the same last place in memory?
func shares[T any](a, b []T) bool {
	return cap(a) > 0 && cap(b) > 0 && &a[:cap(a)][cap(a)-1] == &b[:cap(b)][cap(b)-1]
}
