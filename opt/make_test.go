package opt

import (
	"fmt"
	"slices"
	"strings"
	"testing"

	"jacquard/api"
	"jacquard/heap"
	"jacquard/prim"
	"jacquard/tag"
)

// text shows steps: what each takes, registers by r and constants by =, what it puts, where it goes on.
func text(c *Code) string {
	constants := c.Constants()
	source := func(n int) string {
		if n < c.Registers() {
			return fmt.Sprint("r", n)
		}
		v := constants[n-c.Registers()]
		if x, is := tag.Num(v); is {
			return fmt.Sprint("=", x)
		}
		return fmt.Sprint("=v", uint64(v))
	}
	var l []string
	for _, s := range c.Steps() {
		words := []string{stepName(s.Op)}
		if slices.Contains([]int{api.OpBin, api.OpStoreGlobal, api.OpLoadGlobal, StepNum, StepPrim, StepEnter}, s.Op) {
			words[0] += fmt.Sprint(s.A)
		}
		for _, n := range s.From {
			words = append(words, source(n))
		}
		if s.To != none {
			words = append(words, fmt.Sprint(">r", s.To))
		}
		if s.Next != none {
			words = append(words, fmt.Sprint("@", s.Next))
		}
		l = append(l, strings.Join(words, " "))
	}
	return strings.Join(l, "; ")
}

// wantText: the steps of the first function.
func wantText(t *testing.T, im api.Image, how api.How, known []api.Known, seen []api.Seen, want string) *Code {
	t.Helper()
	c := checkMade(t, im, 0, how, known, seen)
	if got := text(c); got != want {
		t.Errorf("%v, %v: %s\nnot %s", im.Funs, how, got, want)
	}
	return c
}

// P16.2: values are taken from where they are; what is stored is put there at once.
func TestRegisters(t *testing.T) {
	for code, want := range map[string]string{
		"load 0; load 1; bin 0; store 2; load 2; return":                          "bin0 r0 r1 >r2; return r2",
		"load 0; int 5; store 0; load 0; list 2; return":                          "Move r0 >r3; Move =5 >r0; list r3 r0 >r3; return r3",
		"load 0; load 1; load 0; neg; store 0; list 2; return":                    "neg r0 >r5; Move r0 >r3; Move r5 >r0; list r3 r1 >r3; return r3",
		"load 0; box 0; loadcell 0; list 2; return":                               "Move r0 >r3; box r0 >r0; loadcell r0 >r4; list r3 r4 >r3; return r3",
		"load 0; load 1; storecell 0; not; storeglobal 2; atom 0; return":         "storecell r0 r1; not r0 >r3; storeglobal2 r3; return =v1",
		"load 0; pop; load 1; jump 5; load 2; return":                             "Move r1 >r3; return r3",
		"load 0; false 4; int 1; return; int 2; return":                           "false r0 @2; return =1; return =2",
		"load 0; keepfalse 4; load 1; neg; return":                                "Move r0 >r3; false r3 @3; neg r1 >r3; return r3",
		"load 0; keeptrue 3; load 1; store 2; load 2; return":                     "Move r0 >r3; True r3 @3; Move r1 >r3; Move r3 >r2; return r2",
		"load 0; false 5; int 1; store 2; loop 0; load 2; return":                 "false r0 @3; Move =1 >r2; loop @0; return r2",
		"load 0; load 1; call 1; store 2; load 2; spawn 0; return":                "call r0 r1 >r3; Move r3 >r2; spawn r2 >r3; return r3",
		"prim 1; load 0; call 1; return":                                          "Prim1 r0 >r3; return r3",
		"prim 1; load 0; load 1; call 2; store 0; load 0; return":                 "Prim1 r0 r1 >r3; Move r3 >r0; return r0",
		"jump 3; load 1; return; load 0; false 7; loop 1; return; load 2; return": "false r0 @3; loop @2; return r1; return r2",
	} {
		im := imageOf(api.Code{Slots: 3, Code: ops(code)})
		for inline := range 2 {
			wantText(t, im, api.How{Guard: inline, Inline: inline}, nil, nil, want)
		}
	}
}

// P16.2: with Fold 1 what is known is reckoned ahead, slots at first among it; without it is not.
func TestFold(t *testing.T) {
	for code, want := range map[string][2]string{
		"int 2; int 3; bin 2; neg; return":                               {"bin2 =2 =3 >r2; neg r2 >r2; return r2", "return =-6"},
		"int 2; store 0; load 0; load 0; bin 0; store 1; load 1; return": {"Move =2 >r0; bin0 r0 r0 >r1; return r1", "Move =2 >r0; Move =4 >r1; return =4"},
		"load 1; not; return":                                            {"not r1 >r2; return r2", "return =v9"},
		"int 7; int 0; bin 3; return":                                    {"bin3 =7 =0 >r2; return r2", "bin3 =7 =0 >r2; return r2"},
		"atom 1; neg; return":                                            {"neg =v5 >r2; return r2", "neg =v5 >r2; return r2"},
		"int 1; false 4; int 2; return; loadglobal 0; return":            {"false =1 @2; return =2; return =20", "return =2"},
		"int 1; keepfalse 3; int 2; return":                              {"Move =1 >r2; false r2 @3; Move =2 >r2; return r2", "Move =2 >r2; return r2"},
		"atom 1; keeptrue 4; loadglobal 0; neg; return":                  {"Move =v5 >r2; True r2 @3; neg =20 >r2; return r2", ""},
		"int 1; keeptrue 4; loadglobal 0; neg; return":                   {"Move =1 >r2; True r2 @3; neg =20 >r2; return r2", "Move =1 >r2; return r2"},
		// what a slot is at first holds till it is written, on each way
		"load 0; false 4; int 1; store 0; load 0; return": {"false r0 @2; Move =1 >r0; return r0", "return r0"},
		// what was stored is known till something else leads there
		"int 4; store 0; load 0; store 1; load 1; false 8; load 1; return; atom 0; return": {"Move =4 >r0; Move r0 >r1; false r1 @4; return r1; return =v1", "Move =4 >r0; Move =4 >r1; return =4"},
		"int 4; store 0; load 1; box 1; pop; load 0; load 1; list 2; return":               {"Move =4 >r0; Move r1 >r2; box r1 >r1; list r0 r1 >r2; return r2", ""},
		"load 1; list 1; pop; box 1; loop 0":                                               {"list r1 >r2; box r1 >r1; loop @0", "list r1 >r2; box r1 >r1; loop @0"},
		// a slot that is written in a turn is not known at its beginning; one that is not stays known
		"load 0; load 1; list 2; pop; int 1; store 0; loop 0": {"list r0 r1 >r2; Move =1 >r0; loop @0", "list r0 =v1 >r2; Move =1 >r0; loop @0"},
	} {
		im := imageOf(api.Code{Slots: 2, Code: ops(code)})
		known := []api.Known{{Global: 0, Val: tag.Int(20), Fun: none}}
		for fold, text := range want {
			if text != "" {
				wantText(t, im, api.How{Fold: fold, Guard: fold}, known, nil, text)
			}
		}
	}
}

// P16.3: what is reckoned ahead is what layer 9 makes of it, and nothing else is: no fault, nothing that takes objects.
func TestReckoned(t *testing.T) {
	h, _ := heap.New(100)
	a, _ := h.Str([]byte("a"))
	twin, _ := h.Str([]byte("a"))
	z, _ := h.Cplx(0, 0)
	values := []api.Value{api.Nil, api.False, api.True, 3, 7, a, twin, z, tag.Int(api.MaxInt), tag.Int(api.MinInt)}
	for n := -4; n < 5; n++ {
		values = append(values, tag.Int(n))
	}
	for _, x := range values {
		for _, y := range values {
			for op := range 11 {
				checkReckoned(t, h, op, x, y)
			}
		}
		for _, op := range []int{api.OpNot, api.OpNeg} {
			v, is := reckonedSingle(op, x)
			want, fault := prim.Not(x), api.FaultNone
			if op == api.OpNeg {
				want, fault = prim.Neg(h, x)
			}
			if number := tag.Kind(x) == api.KindInt; is != (number || op == api.OpNot) || is && (v != want || fault != 0) {
				t.Errorf("%d of %d: %d, %v", op, x, v, is)
			}
		}
	}
}

func checkReckoned(t *testing.T, h *heap.Heap, op int, x, y api.Value) {
	t.Helper()
	v, is := reckoned(op, x, y)
	want, fault := prim.Bin(h, op, x, y)
	numbers := tag.Kind(x) == api.KindInt && tag.Kind(y) == api.KindInt
	equal := op == api.BinEq || op == api.BinNe
	references := tag.Kind(x) == api.KindRef && tag.Kind(y) == api.KindRef
	should := fault == api.FaultNone && (numbers || equal && (x == y || !references))
	if is != should || is && v != want {
		t.Errorf("operation %d of %d and %d: %d, %v", op, x, y, v, is)
	}
}

// P16.2: what had to do with numbers alone counts on numbers, if Guard is 1.
func TestGuard(t *testing.T) {
	im := imageOf(fun(0, 2, "load 0; load 1; bin 7; neg; return"))
	plain, bin, both := "bin7 r0 r1 >r2; neg r2 >r2; return r2", "Num7 r0 r1 >r2; neg r2 >r2; return r2", "Num7 r0 r1 >r2; Minus r2 >r2; return r2"
	for _, c := range []struct {
		guard int
		seen  []api.Seen
		want  string
	}{
		{0, []api.Seen{{At: 2, Kinds: 17}, {At: 3, Kinds: 17}}, plain},
		{1, nil, plain},
		{1, []api.Seen{{At: 2, Kinds: 17}}, bin},
		{1, []api.Seen{{At: 2, Kinds: 1}, {At: 2, Kinds: 0}, {At: 2, Kinds: 16}}, bin},
		{1, []api.Seen{{At: 3, Kinds: 17}, {At: 2, Kinds: 17}, {At: 0, Kinds: 17}}, both},
		{1, []api.Seen{{At: 2, Kinds: 17}, {At: 2, Kinds: 32}}, plain},
		{1, []api.Seen{{At: 2, Kinds: 17}, {At: 2, Kinds: 2}}, plain},
		{1, []api.Seen{{At: 2, Kinds: 255}, {At: 3, Kinds: 0}}, plain},
		{1, []api.Seen{{At: 2, Kinds: 1}}, plain},
	} {
		wantText(t, im, api.How{Guard: c.guard}, nil, c.seen, c.want)
	}
	im = imageOf(fun(0, 2, "load 0; atom 0; bin 0; load 1; int 1; bin 0; list 2; return"), fun(0, 0, "int 1; return"))
	seen := []api.Seen{{At: 2, Kinds: 17}, {Fun: 1, At: 1, Kinds: 17}, {At: 5, Kinds: 17}}
	wantText(t, im, api.How{Guard: 1}, nil, seen, "bin0 r0 =v1 >r2; Num0 r1 =1 >r3; list r2 r3 >r2; return r2")
	wantText(t, im, api.How{Guard: 1}, nil, []api.Seen{{Fun: 1, At: 1, Kinds: 17}}, "bin0 r0 =v1 >r2; bin0 r1 =1 >r3; list r2 r3 >r2; return r2")
}

// P16.2: what is loaded, by what is gone through, is counted on, in the order of globals, with its value.
func TestDeps(t *testing.T) {
	known := []api.Known{{Global: 3, Val: 2, Fun: 1}, {Global: 0, Val: api.Nil, Fun: none}, {Global: 2, Val: tag.Int(-1), Fun: none}}
	for code, want := range map[string][]api.Dep{
		"atom 0; return":                                           nil,
		"loadglobal 1; return":                                     nil,
		"int 1; storeglobal 0; atom 0; return":                     {},
		"loadglobal 2; loadglobal 3; list 2; return":               {{Global: 2, Val: tag.Int(-1)}, {Global: 3, Val: 2}},
		"loadglobal 3; loadglobal 0; loadglobal 3; list 3; return": {{Global: 0, Val: api.Nil}, {Global: 3, Val: 2}},
		"jump 3; loadglobal 2; return; atom 0; return":             nil,
		"loadglobal 0; throw":                                      {{Global: 0, Val: api.Nil}},
		"loadglobal 3; call 0; return":                             {{Global: 3, Val: 2}},
	} {
		im := imageOf(fun(0, 0, code), fun(1, 1, "loadglobal 2; return"))
		for _, how := range hows() {
			if c := checkMade(t, im, 0, how, known, nil); !slices.Equal(c.Deps(), want) {
				t.Error(code, how, c.Deps())
			}
			if c := checkMade(t, im, 0, how, nil, nil); len(c.Deps()) != 0 {
				t.Error(code, how, c.Deps())
			}
		}
	}
}

// P16.2: a call within, and its calls as they stand.
func TestWithin(t *testing.T) {
	im := imageOf(
		fun(0, 1, "int 7; loadglobal 0; load 0; int 3; call 2; bin 0; return"),
		fun(2, 3, "load 0; false 5; load 1; store 2; jump 7; load 1; return; load 2; neg; return"),
	)
	known := []api.Known{{Global: 0, Val: 2, Fun: 1}}
	plain := "call =v2 r0 =3 >r2; bin0 =7 r2 >r1; return r1"
	within := "Move r0 >r2; Move =3 >r3; Move =v1 >r4; Enter1; false r2 @8; Move r3 >r4; neg r4 >r5; Back r5 >r2 @9; Back r3 >r2 @9; bin0 =7 r2 >r1; return r1"
	wantText(t, im, api.How{}, known, nil, plain)
	for inline := 1; inline <= api.MaxInline; inline++ {
		c := wantText(t, im, api.How{Inline: inline}, known, nil, within)
		if !slices.Equal(c.Within(), []int{1}) || c.Registers() != 6 {
			t.Error(c.Within(), c.Registers())
		}
		seven := slices.Index(c.Constants(), tag.Int(7)) + c.Registers()
		want := map[int]string{
			3: fmt.Sprintf("[{0 5 0 [%d]} {1 0 2 []}]", seven),
			6: fmt.Sprintf("[{0 5 0 [%d]} {1 9 2 []}]", seven),
			7: fmt.Sprintf("[{0 5 0 [%d 2]}]", seven),
			8: fmt.Sprintf("[{0 5 0 [%d 2]}]", seven),
			9: "[{0 6 0 []}]",
		}
		for i := range c.Size() {
			got := fmt.Sprint(c.Behind(i))
			if want[i] == "" && got != "[]" || want[i] != "" && got != want[i] {
				t.Error(i, got)
			}
		}
	}
	known[0].Fun = none
	wantText(t, im, api.How{Inline: 4}, known, nil, plain)
	for _, v := range []api.Value{tag.Int(0), api.Nil, api.True} { // no function, whatever is said
		known[0] = api.Known{Global: 0, Val: v, Fun: 1}
		if c := checkMade(t, im, 0, api.How{Inline: 4}, known, nil); len(c.Within()) != 0 {
			t.Error(c.Within())
		}
	}
}

// What a constant is within is known there, if Fold is 1.
func TestFoldWithin(t *testing.T) {
	im := imageOf(
		fun(0, 1, "loadglobal 0; int 3; loadglobal 1; call 2; return"),
		fun(2, 3, "load 0; load 1; bin 2; store 0; load 0; load 1; load 2; list 3; return"),
	)
	known := []api.Known{{Global: 0, Val: 2, Fun: 1}, {Global: 1, Val: tag.Int(5), Fun: none}}
	wantText(t, im, api.How{Fold: 1, Inline: 1}, known, nil, "Move =3 >r1; Move =5 >r2; Move =v1 >r3; Enter1; Move =15 >r1; list =15 =5 =v1 >r4; Back r4 >r1 @7; return r1")
	wantText(t, im, api.How{Fold: 1, Inline: 1}, known[:1], nil, "loadglobal1 >r3; Move =3 >r1; Move r3 >r2; Move =v1 >r3; Enter1; bin2 =3 r2 >r1; list r1 r2 =v1 >r4; Back r4 >r1 @8; return r1")
	// a function that is in a slot is known as well
	im.Funs[0] = fun(0, 1, "loadglobal 0; store 0; load 0; int 1; int 2; call 2; return")
	for fold := range 2 {
		if c := checkMade(t, im, 0, api.How{Fold: fold, Inline: 1}, known, nil); len(c.Within()) != fold {
			t.Error(c.Within())
		}
	}
}

// P16.2: which functions are not within.
func TestNotWithin(t *testing.T) {
	right := fun(1, 1, "load 0; return")
	boxed := fun(1, 1, "loadcell 0; return")
	boxed.Boxes = []int{0}
	taking := fun(1, 1, "loadcap 0; return")
	taking.Caps = []api.Cap{{Own: 1, N: 0}}
	boxing := fun(1, 2, "box 0; box 1; loadcell 0; return")
	long := fun(1, 1, strings.Repeat("load 0; pop; ", 300)+"load 0; return")
	for name, c := range map[string]struct {
		code   api.Code
		fun    int
		within int
	}{
		"right": {right, 1, 1}, "boxing itself": {boxing, 1, 1}, "boxed": {boxed, 1, 0}, "taking": {taking, 1, 0},
		"other number": {fun(0, 1, "load 0; return"), 1, 0}, "more": {fun(2, 2, "load 0; return"), 1, 0},
		"unknown": {right, none, 0}, "itself": {right, 0, 0}, "long": {long, 1, 0},
		"never returns": {fun(1, 1, "loop 0"), 1, 1}, "throws": {fun(1, 1, "load 0; throw"), 1, 1},
	} {
		im := imageOf(fun(0, 1, "loadglobal 3; int 1; call 1; store 0; load 0; return"), c.code)
		c0 := checkMade(t, im, 0, api.How{Inline: 1}, []api.Known{{Global: 3, Val: 2, Fun: c.fun}}, nil)
		if len(c0.Within()) != c.within || len(c0.Deps()) != 1 {
			t.Error(name, c0.Within(), c0.Deps())
		}
	}
	im := imageOf(fun(0, 1, "loadglobal 3; int 1; call 1; return"), fun(1, 1, "loop 0"))
	wantText(t, im, api.How{Inline: 1}, []api.Known{{Global: 3, Val: 2, Fun: 1}}, nil, "Move =1 >r1; Enter1; loop @2")
}

// P16.2: so many calls may be within one another; a function may be within itself, but not the one whose code it is.
func TestInline(t *testing.T) {
	var funs []api.Code
	var known []api.Known
	for f := range 7 { // each calls the next one, and that the one behind
		funs = append(funs, fun(0, 0, fmt.Sprintf("loadglobal %d; call 0; return", f+1)))
		known = append(known, api.Known{Global: 6 - f, Val: api.Value(4*f + 2), Fun: 6 - f})
	}
	im := api.Image{Funs: funs, Globals: 8}
	for inline := range api.MaxInline + 1 {
		c := checkMade(t, im, 1, api.How{Inline: inline}, known, nil)
		want := []int{2, 3, 4, 5, 6}[:inline]
		if !slices.Equal(c.Within(), want) {
			t.Error(inline, c.Within())
		}
		if len(c.Deps()) != inline+1 || c.Deps()[0].Global != 2 {
			t.Error(inline, c.Deps())
		}
	}
	again := api.Image{Globals: 2, Funs: []api.Code{
		fun(0, 0, "loadglobal 1; call 0; pop; loadglobal 1; call 0; return"),
		fun(0, 0, "loadglobal 1; call 0; pop; loadglobal 0; call 0; return"),
	}}
	known = []api.Known{{Global: 0, Val: 2, Fun: 0}, {Global: 1, Val: 6, Fun: 1}}
	last := 0
	for inline := range api.MaxInline + 1 {
		c := checkMade(t, again, 0, api.How{Inline: inline}, known, nil)
		if want := min(inline, 1); len(c.Within()) != want || c.Size() <= last && inline > 1 {
			t.Error(inline, c.Within(), c.Size())
		}
		last = c.Size()
	}
}

// Calls within never make code too long, nor much longer than it was.
func TestManyWithin(t *testing.T) {
	short := imageOf(fun(0, 0, strings.Repeat("loadglobal 0; call 0; pop; ", 100)+"atom 0; return"), fun(0, 200, strings.Repeat("loadglobal 1; pop; ", 99)+"load 0; return"))
	entered := 0
	for _, s := range checkMade(t, short, 0, api.How{Inline: 1}, []api.Known{{Global: 0, Val: 2, Fun: 1}}, nil).Steps() {
		if s.Op == StepEnter {
			entered++
		}
	}
	if entered != mostAll/mostOne {
		t.Error(entered)
	}
	calls := strings.Repeat("loadglobal 0; call 0; pop; ", 5000) + "atom 0; return"
	im := imageOf(fun(0, 0, calls), fun(0, 200, strings.Repeat("loadglobal 1; pop; ", 90)+"loadglobal 0; call 0; return"))
	known := []api.Known{{Global: 0, Val: 2, Fun: 1}}
	for inline := range api.MaxInline + 1 {
		c, e := Make(im, 0, api.How{Inline: inline}, known, nil)
		if e != api.OK || c.Size() > 65536 || len(c.Within()) != min(inline, 1) {
			t.Error(inline, e, c.Size(), c.Within())
		}
	}
	im.Funs[0] = longFun(10000, 25533)
	for i := range im.Funs[0].Code {
		if leadsToA(im.Funs[0].Code[i].Op) {
			im.Funs[0].Code[i].A += 3
		}
	}
	im.Funs[0].Code = append(ops("loadglobal 2; call 0; pop"), im.Funs[0].Code...)
	known[0].Global = 2
	c, e := Make(im, 0, api.How{Inline: 4}, known, nil)
	if e != api.OK || c.Size() != 65536 || len(c.Within()) != 0 {
		t.Error(e, c.Size(), c.Within())
	}
}

// What is on a stack stays what it was when the slot that it was loaded from is written, on shared parts of stacks, too.
func TestStacks(t *testing.T) {
	im := imageOf(fun(0, 3, "load 0; load 1; load 2; neg; pop; int 5; store 0; load 2; neg; pop; box 1; load 2; neg; list 3; return"))
	c := wantText(t, im, api.How{}, nil, nil, "neg r2 >r5; Move r0 >r3; Move =5 >r0; neg r2 >r5; Move r1 >r4; box r1 >r1; neg r2 >r5; list r3 r4 r5 >r3; return r3")
	for i, want := range map[int]string{0: "[{0 4 0 [0 1]}]", 3: "[{0 9 0 [3 1]}]", 5: "[{0 11 0 [3 4]}]", 6: "[{0 13 0 [3 4]}]", 7: "[{0 14 0 []}]"} {
		if got := fmt.Sprint(c.Behind(i)); got != want {
			t.Error(i, got)
		}
	}
}

// What a function takes along is, of slots, what it takes from there; own cells are no sources.
func TestTaken(t *testing.T) {
	taking := fun(0, 1, "fun 2; return")
	taking.Caps = []api.Cap{{Own: 1, N: 1}}
	inner := fun(0, 0, "loadcap 1; return")
	inner.Caps = []api.Cap{{Own: 0, N: 0}, {Own: 1, N: 0}, {Own: 0, N: 0}}
	im := imageOf(fun(0, 2, "box 1; fun 1; return"), taking, inner)
	wantText(t, im, api.How{Fold: 1}, nil, nil, "box r1 >r1; fun r1 >r2; return r2")
	if c := checkMade(t, im, 1, api.How{Fold: 1}, nil, nil); text(c) != "fun r0 >r1; return r1" {
		t.Error(text(c))
	}
}

// What a step that does not hold leaves is as it was ahead of it.
func TestAhead(t *testing.T) {
	im := imageOf(
		fun(0, 2, "load 1; loadglobal 0; load 0; call 1; list 2; return"),
		fun(1, 1, "int 4; load 0; int 2; load 0; bin 1; bin 0; neg; return"),
	)
	seen := []api.Seen{{Fun: 1, At: 4, Kinds: 17}, {Fun: 1, At: 6, Kinds: 17}}
	c := wantText(t, im, api.How{Guard: 1, Inline: 1}, []api.Known{{Global: 0, Val: 2, Fun: 1}}, seen,
		"Move r0 >r3; Enter1; Num1 =2 r3 >r6; bin0 r3 r6 >r5; Minus r5 >r5; Back r5 >r3 @6; list r1 r3 >r2; return r2")
	two, four := slices.Index(c.Constants(), tag.Int(2))+c.Registers(), slices.Index(c.Constants(), tag.Int(4))+c.Registers()
	for i, want := range map[int][2]string{
		0: {"[]", "[]"},
		1: {"[{0 4 0 [1]} {1 0 3 []}]", "[]"},
		2: {fmt.Sprintf("[{0 4 0 [1]} {1 5 3 [%d 3]}]", four), fmt.Sprintf("[{0 4 0 [1]} {1 4 3 [%d 3 %d 3]}]", four, two)},
		3: {fmt.Sprintf("[{0 4 0 [1]} {1 6 3 [%d]}]", four), "[]"},
		4: {fmt.Sprintf("[{0 4 0 [1]} {1 7 3 [%d]}]", four), fmt.Sprintf("[{0 4 0 [1]} {1 6 3 [%d 5]}]", four)},
		5: {"[{0 4 0 [1 3]}]", "[]"},
		6: {"[{0 5 0 []}]", "[]"},
		7: {"[]", "[]"},
	} {
		if behind, ahead := fmt.Sprint(c.Behind(i)), fmt.Sprint(c.Ahead(i)); behind != want[0] || ahead != want[1] {
			t.Error(i, behind, ahead)
		}
	}
	for _, i := range append(far(), -1, 8) {
		if len(c.Behind(i)) != 0 || len(c.Ahead(i)) != 0 {
			t.Error(i, "is no step")
		}
	}
}
