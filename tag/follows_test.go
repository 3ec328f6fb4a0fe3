package tag

import (
	"testing"

	"jacquard/api"
)

// someInts are the edges, and numbers between them by a fixed rule.
func someInts() []int {
	l := edgeInts()
	n := uint64(1)
	for range 40 {
		n = n*6364136223846793005 + 1442695040888963407
		l = append(l, mod62(n))
	}
	return l
}

func mod62(n uint64) int { return int(int64(n<<2) >> 2) }

func must(t *testing.T, do func(a, b api.Value) (api.Value, api.Errno), a, b api.Value) api.Value {
	t.Helper()
	v, e := do(a, b)
	if e != api.OK {
		t.Fatalf("of %#x and %#x: error %d", a, b, e)
	}
	return v
}

// P1.5: numbers, references and primitives are told and made again.
func TestToldAndMadeAgain(t *testing.T) {
	for _, n := range someInts() {
		v := Int(n)
		if m := mustNum(t, v); m != n || Int(m) != v || Kind(v) != api.KindInt {
			t.Errorf("%d is told as %d", n, m)
		}
	}
	for _, i := range []int{0, 1, 77, api.MaxRef} {
		ref, _ := Ref(i)
		prim, _ := Prim(i)
		j, _ := Index(ref)
		k, _ := Index(prim)
		if j != i || k != i || ref == prim {
			t.Errorf("%d is told as %d, %d", i, j, k)
		}
	}
}

// P1.5: sums and products may be taken in whatever order.
func TestOrderDoesNotMatter(t *testing.T) {
	l := someInts()
	for _, op := range operations() {
		if op.name != "Add" && op.name != "Mul" {
			continue
		}
		for i, x := range l {
			for j, y := range l {
				a, b, c := Int(x), Int(y), Int(l[(i*7+j*3)%len(l)])
				if must(t, op.do, a, b) != must(t, op.do, b, a) {
					t.Errorf("%s of %#x and %#x", op.name, a, b)
				}
				left := must(t, op.do, must(t, op.do, a, b), c)
				right := must(t, op.do, a, must(t, op.do, b, c))
				if left != right {
					t.Errorf("%s of %#x, %#x and %#x", op.name, a, b, c)
				}
			}
		}
	}
}

// P1.5: a is Div times b and Mod, and Mod has the sign of a, or is 0.
func TestDivAndMod(t *testing.T) {
	for _, x := range someInts() {
		for _, y := range someInts() {
			if y == 0 {
				continue
			}
			a, b := Int(x), Int(y)
			rest := must(t, Mod, a, b)
			if must(t, Add, must(t, Mul, must(t, Div, a, b), b), rest) != a {
				t.Errorf("Div and Mod of %d and %d", x, y)
			}
			if r := mustNum(t, rest); r != 0 && (r < 0) != (x < 0) {
				t.Errorf("Mod(%d, %d) = %d", x, y, r)
			}
		}
	}
}

// P1.5: of two numbers one is Less, or they are the same word.
func TestOneIsLess(t *testing.T) {
	for _, x := range someInts() {
		for _, y := range someInts() {
			below, _ := Less(Int(x), Int(y))
			above, _ := Less(Int(y), Int(x))
			said := 0
			for _, is := range []bool{below, above, Int(x) == Int(y)} {
				if is {
					said++
				}
			}
			if said != 1 {
				t.Errorf("%d and %d: %v, %v", x, y, below, above)
			}
		}
	}
}

// DOC.md, Words: the limits and the errors' numbers.
func TestLimitsAndErrors(t *testing.T) {
	for _, c := range []struct {
		name      string
		got, want int
	}{
		{"MaxInt", api.MaxInt, 2305843009213693951}, {"MinInt", api.MinInt, -2305843009213693952},
		{"MaxRef", api.MaxRef, 2147483647}, {"MaxObjects", api.MaxObjects, 65536},
		{"MaxStr", api.MaxStr, 65536}, {"MaxList", api.MaxList, 65536}, {"MaxFields", api.MaxFields, 256},
		{"MaxShow", api.MaxShow, 65536}, {"MaxPairs", api.MaxPairs, 65536},
		{"MaxSource", api.MaxSource, 65536}, {"MaxTokens", api.MaxTokens, 16384},
		{"MaxNest", api.MaxNest, 64}, {"MaxParams", api.MaxParams, 16},
		{"MaxSlots", api.MaxSlots, 256}, {"MaxCaps", api.MaxCaps, 256},
		{"MaxGlobals", api.MaxGlobals, 1024}, {"MaxFuns", api.MaxFuns, 1024},
		{"MaxImage", api.MaxImage, 4194304}, {"MaxStack", api.MaxStack, 256}, {"MaxCode", api.MaxCode, 65536},
		{"MaxDepth", api.MaxDepth, 1024}, {"MaxCount", api.MaxCount, 1099511627776},
		{"MaxVersions", api.MaxVersions, 4}, {"MaxInline", api.MaxInline, 4},
		{"MaxMonitors", api.MaxMonitors, 1024}, {"MaxThreads", api.MaxThreads, 256},
		{"MaxBoxes", api.MaxBoxes, 1024}, {"MaxRoom", api.MaxRoom, 1024}, {"MaxTick", api.MaxTick, 1048576},
		{"MaxEntries", api.MaxEntries, 65536}, {"MaxQuantum", api.MaxQuantum, 64}, {"MaxText", api.MaxText, 1048576},
		{"Nil", int(api.Nil), 1}, {"False", int(api.False), 5}, {"True", int(api.True), 9},
		{"KindInt", api.KindInt, 0}, {"KindAtom", api.KindAtom, 1}, {"KindRef", api.KindRef, 2},
		{"KindPrim", api.KindPrim, 3}, {"KindNone", api.KindNone, 4},
		{"OK", int(api.OK), 0}, {"ErrArg", int(api.ErrArg), 1}, {"ErrLong", int(api.ErrLong), 2},
		{"ErrMany", int(api.ErrMany), 3}, {"ErrNone", int(api.ErrNone), 4}, {"ErrNil", int(api.ErrNil), 5},
		{"ErrForm", int(api.ErrForm), 6}, {"ErrTime", int(api.ErrTime), 7}, {"ErrKind", int(api.ErrKind), 8},
		{"ErrRange", int(api.ErrRange), 9}, {"ErrZero", int(api.ErrZero), 10}, {"ErrTwice", int(api.ErrTwice), 80},
	} {
		if c.got != c.want {
			t.Errorf("%s is %d, not %d", c.name, c.got, c.want)
		}
	}
}
