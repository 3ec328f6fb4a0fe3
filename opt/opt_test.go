package opt

import (
	"math"
	"reflect"
	"slices"
	"strconv"
	"strings"
	"testing"

	"jacquard/api"
	"jacquard/code"
	"jacquard/verify"
)

// ops reads instructions: "int 1; return".
func ops(text string) []api.Instr {
	numbers := map[string]int{}
	for op := range api.Ops {
		numbers[code.Name(op)] = op
	}
	var l []api.Instr
	for _, word := range strings.Split(text, ";") {
		f := strings.Fields(word)
		op, is := numbers[f[0]]
		if !is {
			panic(word)
		}
		i := api.Instr{Op: op}
		if len(f) > 1 {
			n, err := strconv.Atoi(f[1])
			if err != nil {
				panic(err)
			}
			i.A = n
		}
		l = append(l, i)
	}
	return l
}

// fun is a function with these instructions.
func fun(params, slots int, text string) api.Code {
	return api.Code{Params: params, Slots: slots, Code: ops(text)}
}

// imageOf has some texts, four globals and these functions.
func imageOf(funs ...api.Code) api.Image {
	return api.Image{Funs: funs, Strs: []string{"a", "b"}, Keys: [][]int{{0, 1}}, Globals: 4}
}

// hows are all there are.
func hows() []api.How {
	var l []api.How
	for fold := range 2 {
		for guard := range 2 {
			for inline := range api.MaxInline + 1 {
				l = append(l, api.How{Fold: fold, Guard: guard, Inline: inline})
			}
		}
	}
	return l
}

// far are numbers far away from all places.
func far() []int {
	return []int{1 << 31, 1 << 32, 1<<32 + 1, -1 << 32, api.MaxInt, api.MinInt, math.MaxInt, math.MinInt, math.MinInt + 1}
}

// wantMake: which error, and no code beside it.
func wantMake(t *testing.T, name string, im api.Image, fun int, how api.How, known []api.Known, seen []api.Seen, want api.Errno) {
	t.Helper()
	c, e := Make(im, fun, how, known, seen)
	if e != want || (c == nil) != (e != api.OK) {
		t.Errorf("%s: %v, %d, not %d", name, c, e, want)
	}
}

// twoFuns has a function of one instruction more than the other.
func twoFuns() api.Image {
	return imageOf(fun(0, 1, "loadglobal 0; int 3; call 1; store 0; load 0; return"), fun(1, 2, "load 0; loadglobal 1; bin 0; store 1; load 1; load 0; bin 2; return"))
}

// The chapter's example.
func TestExample(t *testing.T) {
	im := api.Image{Funs: []api.Code{{Code: ops("loadglobal 0; return")}}, Globals: 1}
	known := []api.Known{{Global: 0, Val: 20, Fun: -1}}
	for _, how := range hows() {
		c := checkMade(t, im, 0, how, known, nil)
		if !slices.Equal(c.Deps(), []api.Dep{{Global: 0, Val: 20}}) || len(c.Within()) != 0 {
			t.Error(how, c.Deps(), c.Within())
		}
	}
	wantMake(t, "Fold 2", im, 0, api.How{Fold: 2}, known, nil, api.ErrArg)
}

// P16.1: what verify.Check tells comes first.
func TestWrongImages(t *testing.T) {
	wrong := map[api.Errno]api.Image{
		api.ErrMany:  {},
		api.ErrArg:   imageOf(fun(1, 1, "atom 0; return")),
		api.ErrForm:  imageOf(fun(0, 0, "atom 0; return"), fun(0, 0, "atom 0; pop")),
		api.ErrRange: imageOf(fun(0, 0, "load 0; return")),
		api.ErrKind:  imageOf(api.Code{Code: []api.Instr{{Op: api.Ops}}}),
	}
	for want, im := range wrong {
		if _, _, e := verify.Check(im); e != want {
			t.Fatal(e, want)
		}
		for _, f := range []int{-1, 0, 1, 2} {
			wantMake(t, "image alone", im, f, api.How{}, nil, nil, want)
			wantMake(t, "all wrong", im, f, api.How{Fold: 2}, []api.Known{{Global: -1}}, []api.Seen{{At: -1}}, want)
		}
	}
}

// P16.1, P16.2
func TestFun(t *testing.T) {
	im := twoFuns()
	for f := range im.Funs {
		if c := checkMade(t, im, f, api.How{}, nil, nil); c.Fun() != f {
			t.Error(c.Fun(), f)
		}
	}
	for _, f := range append(far(), -1, 2) {
		wantMake(t, "fun", im, f, api.How{}, nil, nil, api.ErrArg)
	}
}

// P16.1
func TestHow(t *testing.T) {
	im := twoFuns()
	for _, how := range hows() {
		checkMade(t, im, 1, how, nil, nil)
	}
	for _, n := range append(far(), -1, 2, api.MaxInline, api.MaxInline+1) {
		wantMake(t, "Fold", im, 0, api.How{Fold: n}, nil, nil, api.ErrArg)
		wantMake(t, "Guard", im, 0, api.How{Guard: n}, nil, nil, api.ErrArg)
		if n != 2 && n != api.MaxInline {
			wantMake(t, "Inline", im, 0, api.How{Inline: n}, nil, nil, api.ErrArg)
		}
	}
}

// P16.1
func TestKnown(t *testing.T) {
	im := twoFuns()
	right := api.Known{Global: 2, Val: api.Nil, Fun: 0}
	for _, k := range []api.Known{
		{Global: 0, Val: 0, Fun: -1},
		{Global: 3, Val: api.True, Fun: 1},
		{Global: 1, Val: api.MaxRef<<2 | 2, Fun: 1},
		{Global: 1, Val: api.MaxRef<<2 | 3, Fun: 0},
		{Global: 1, Val: math.MaxUint64 - 3, Fun: 0},
	} {
		wantMake(t, "right", im, 0, api.How{}, []api.Known{right, k}, nil, api.OK)
		wantMake(t, "right", im, 0, api.How{}, []api.Known{k, right}, nil, api.OK)
	}
	var wrong []api.Known
	for _, n := range append(far(), -1, 4) {
		wrong = append(wrong, api.Known{Global: n, Val: 4, Fun: -1})
	}
	for _, n := range append(far(), -2, 2) {
		wrong = append(wrong, api.Known{Global: 0, Val: 2, Fun: n})
	}
	for _, v := range []api.Value{13, 17, math.MaxUint64, math.MaxUint64 - 1, math.MaxUint64 - 2, (api.MaxRef+1)<<2 | 2, (api.MaxRef+1)<<2 | 3} {
		wrong = append(wrong, api.Known{Global: 0, Val: v, Fun: -1})
	}
	wrong = append(wrong, right, api.Known{Global: 2, Val: api.True, Fun: 1}) // a global that stands ahead
	for _, k := range wrong {
		wantMake(t, "wrong", im, 0, api.How{}, []api.Known{right, k}, nil, api.ErrArg)
		wantMake(t, "wrong", im, 0, api.How{Fold: 1, Guard: 1, Inline: 4}, []api.Known{k, right}, nil, api.ErrArg)
	}
	im.Globals = 0
	im.Funs = []api.Code{fun(0, 0, "int 1; return")}
	wantMake(t, "no globals", im, 0, api.How{}, nil, nil, api.OK)
	wantMake(t, "no globals", im, 0, api.How{}, []api.Known{{Fun: -1}}, nil, api.ErrArg)
}

// P16.1: places may stand twice.
func TestSeen(t *testing.T) {
	im := twoFuns()
	right := api.Seen{Fun: 1, At: 2, Kinds: 17}
	for _, s := range []api.Seen{right, {}, {Kinds: 255}, {At: 5}, {Fun: 1, At: 7, Kinds: 1}} {
		wantMake(t, "right", im, 0, api.How{Guard: 1}, nil, []api.Seen{right, s}, api.OK)
	}
	wrong := []api.Seen{{At: 6}, {Fun: 1, At: 8}, {At: -1}, {Fun: -1}, {Fun: 2}, {Kinds: -1}, {Kinds: 256}}
	for _, n := range far() {
		wrong = append(wrong, api.Seen{Fun: n}, api.Seen{At: n}, api.Seen{Kinds: n})
	}
	for _, s := range wrong {
		wantMake(t, "wrong", im, 0, api.How{}, nil, []api.Seen{right, s}, api.ErrArg)
		wantMake(t, "wrong", im, 1, api.How{Guard: 1}, nil, []api.Seen{s, right}, api.ErrArg)
	}
}

// longFun has more steps than instructions: ways that meet again, which has to be said at the end of each.
func longFun(ways, more int) api.Code {
	var c api.Code
	c.Slots = 1
	for i := range ways {
		c.Code = append(c.Code, ops("loadglobal 0; false 0")...)
		c.Code[len(c.Code)-1].A = 2*ways + 1 + i
	}
	c.Code = append(c.Code, api.Instr{Op: api.OpJump, A: 3*ways + 1})
	for range ways + more {
		c.Code = append(c.Code, ops("box 0")...)
	}
	c.Code = append(c.Code, ops("loadglobal 0; return")...)
	return c
}

// P16.1: ErrMany, behind all others.
func TestTooLong(t *testing.T) {
	for _, how := range []api.How{{}, {Fold: 1}, {Fold: 1, Guard: 1, Inline: 4}} {
		im := imageOf(longFun(10000, 25534))
		c, e := Make(im, 0, how, nil, nil)
		if e != api.OK || c.Size() != 65536 {
			t.Fatal(c.Size(), e)
		}
		im = imageOf(longFun(10000, 25535))
		wantMake(t, "too long", im, 0, how, nil, nil, api.ErrMany)
		wantMake(t, "and wrong", im, 0, how, nil, []api.Seen{{At: -1}}, api.ErrArg)
		wantMake(t, "and wrong", im, 1, how, nil, nil, api.ErrArg)
		if _, e := Make(im, 0, how, []api.Known{{Global: 0, Val: api.True, Fun: -1}}, nil); e != api.OK && how.Fold == 1 { // which way it goes is known
			t.Error(how, e)
		}
	}
	high := strings.Repeat(strings.Repeat("load 0; ", 127)+"box 0; "+strings.Repeat("pop; ", 127)+"box 1; ", api.MaxCode/256-1) + "atom 0; return"
	wantMake(t, "long", imageOf(fun(0, api.MaxSlots, high)), 0, api.How{}, nil, nil, api.OK)
}

// P16.1: a function with at most 1000 instructions whose Inline is 0 is never too long.
func TestNeverTooLong(t *testing.T) {
	var l []api.Code
	for ways := 0; ways < 332; ways += 10 {
		l = append(l, longFun(ways, 997-3*ways))
	}
	l = append(l, longFun(332, 0))
	l = append(l, fun(0, api.MaxSlots, strings.Repeat("load 255; ", 250)+"box 255; "+strings.Repeat("pop; ", 250)+"atom 0; return"))
	for _, c := range l {
		if len(c.Code) > 1000 {
			t.Fatal(len(c.Code))
		}
		im := imageOf(c)
		if _, _, e := verify.Check(im); e != api.OK {
			t.Fatal(e)
		}
		for fold := range 2 {
			checkMade(t, im, 0, api.How{Fold: fold, Guard: fold}, nil, nil)
		}
	}
}

// P16.1: of nil code.
func TestNil(t *testing.T) {
	var c *Code
	if c.Fun() != 0 || len(c.Deps()) != 0 || c.Size() != 0 || len(c.Within()) != 0 {
		t.Error("nil code has something")
	}
	if len(c.Steps()) != 0 || c.Registers() != 0 || len(c.Constants()) != 0 || len(c.Behind(0)) != 0 || len(c.Ahead(0)) != 0 {
		t.Error("nil code has steps")
	}
}

// busyImage is one of which much is kept: calls within, constants, stacks, slots that are taken along.
func busyImage() (im api.Image, known []api.Known, seen []api.Seen) {
	im = imageOf(
		fun(0, 1, "int 7; loadglobal 0; int 3; call 1; fun 2; list 3; store 0; load 0; return"),
		fun(1, 2, "load 0; loadglobal 1; bin 0; neg; return"),
		api.Code{Slots: 1, Caps: []api.Cap{{Own: 1, N: 0}}, Code: ops("str 1; loadcap 0; rec 0; throw")},
	)
	known = []api.Known{{Global: 1, Val: 20, Fun: -1}, {Global: 0, Val: 2, Fun: 1}, {Global: 3, Val: 2, Fun: 2}}
	seen = []api.Seen{{Fun: 1, At: 2, Kinds: 17}, {Fun: 1, At: 3, Kinds: 1}, {Fun: 1, At: 3, Kinds: 16}}
	return im, known, seen
}

// all is all that code tells.
func all(c *Code) []any {
	l := []any{c.Fun(), c.Deps(), c.Size(), c.Within(), c.Steps(), c.Registers(), c.Constants()}
	for i := range c.Size() {
		l = append(l, c.Behind(i), c.Ahead(i))
	}
	return l
}

// Memory: what is handed in is neither changed nor kept.
func TestArgumentsStay(t *testing.T) {
	for _, how := range hows() {
		im, known, seen := busyImage()
		known, seen = append(known, api.Known{Val: 13})[:3], append(seen, api.Seen{At: -1})[:3]
		im.Funs[2].Caps = append(im.Funs[2].Caps, api.Cap{Own: 7})[:1]
		im.Funs[0].Code = append(im.Funs[0].Code, api.Instr{Op: 99})[:9]
		c := checkMade(t, im, 0, how, known, seen)
		sameIm, sameKnown, sameSeen := busyImage()
		if !reflect.DeepEqual(im, sameIm) || !slices.Equal(known, sameKnown) || !slices.Equal(seen, sameSeen) {
			t.Error("arguments have changed")
		}
		if known[:4][3].Val != 13 || seen[:4][3].At != -1 || im.Funs[2].Caps[:2][1].Own != 7 || im.Funs[0].Code[:10][9].Op != 99 {
			t.Error("spare room has changed")
		}
		for f := range im.Funs {
			clear(im.Funs[f].Code)
			clear(im.Funs[f].Caps)
		}
		clear(im.Funs)
		clear(im.Keys[0])
		clear(known)
		clear(seen)
		twin := checkMade(t, sameIm, 0, how, sameKnown, sameSeen)
		if !reflect.DeepEqual(all(c), all(twin)) {
			t.Error("arguments are kept")
		}
	}
}

// Memory: answers are apart from the code, and from each other.
func TestAnswersAreApart(t *testing.T) {
	im, known, seen := busyImage()
	c := checkMade(t, im, 0, api.How{Guard: 1, Inline: 2}, known, seen)
	twin := checkMade(t, im, 0, api.How{Guard: 1, Inline: 2}, known, seen)
	spoil := func(l []int) {
		for i := range l {
			l[i] = -7
		}
		_ = append(l, -7)
	}
	deps, within, steps, constants := c.Deps(), c.Within(), c.Steps(), c.Constants()
	if len(deps) == 0 || len(within) == 0 || len(constants) == 0 {
		t.Fatal("nothing to spoil")
	}
	for i := range steps {
		for _, l := range [][]Call{c.Behind(i), c.Ahead(i)} {
			for n := range l {
				spoil(l[n].Stack)
			}
			clear(l)
		}
		spoil(steps[i].From)
	}
	clear(steps)
	clear(deps)
	clear(constants)
	spoil(within)
	if !reflect.DeepEqual(all(c), all(twin)) {
		t.Error("the code has changed")
	}
}

// Rules: Make is pure.
func TestSameAgain(t *testing.T) {
	im, known, seen := busyImage()
	for _, how := range hows() {
		first := all(checkMade(t, im, 0, how, known, seen))
		for range 20 {
			slices.Reverse(known) // their order plays no part
			slices.Reverse(seen)
			c, _ := Make(im, 0, how, known, seen)
			if !reflect.DeepEqual(all(c), first) {
				t.Fatal(how, "is not the same again")
			}
		}
	}
}
