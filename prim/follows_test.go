package prim

import (
	"math"
	"math/rand"
	"testing"

	"jacquard/api"
	"jacquard/tag"
)

func (b *bench) bin(op int, x, y api.Value) api.Value {
	b.t.Helper()
	v, f := Bin(b.h, op, x, y)
	if f != 0 {
		b.t.Fatalf("Bin(%d, %s, %s): %d", op, b.look(x), b.look(y), f)
	}
	return v
}

// P9.7: a - b is a + -b, for numbers, complex numbers, and one of each. (Two places are left out where P9.2 and P9.3
// tell them apart: a part -0 less a part +0, and a complex number less MinInt, which is its own negative.)
func TestLessIsMoreOfNegative(t *testing.T) {
	r := rand.New(rand.NewSource(97))
	ints := []int{0, 1, -1, api.MaxInt, api.MinInt, 1 << 53, 12345}
	floats := []float64{0, 1, -1, 0.1, -2.5, 1e300, -1e300, 1e-310, math.Inf(1), math.Inf(-1), math.NaN()}
	for range 100 {
		b := newBench(t, 400)
		draw := func() api.Value {
			if r.Intn(2) == 0 {
				return tag.Int(ints[r.Intn(len(ints))])
			}
			return b.cx(floats[r.Intn(len(floats))], floats[r.Intn(len(floats))])
		}
		for range 40 {
			x, y := draw(), draw()
			if y == tag.Int(api.MinInt) && tag.Kind(x) == api.KindRef {
				continue
			}
			minus, f := Neg(b.h, y)
			if f != 0 {
				t.Fatal(f)
			}
			if b.bin(api.BinEq, b.bin(api.BinSub, x, y), b.bin(api.BinAdd, x, minus)) != api.True {
				t.Errorf("%s - %s", b.look(x), b.look(y))
			}
		}
	}
}

// P9.7: comparisons fit one another.
func TestComparisonsFit(t *testing.T) {
	b := newBench(t, 100)
	var texts, numbers []api.Value
	for _, s := range []string{"", "a", "A", "ab", "aa", "b", "\x00", "\xff", "a"} {
		texts = append(texts, b.str(s))
	}
	for _, n := range []int{0, 1, -1, api.MaxInt, api.MinInt, 7, 0} {
		numbers = append(numbers, tag.Int(n))
	}
	for _, l := range [][]api.Value{texts, numbers} {
		for _, x := range l {
			for _, y := range l {
				lt, le := b.bin(api.BinLt, x, y), b.bin(api.BinLe, x, y)
				gt, ge := b.bin(api.BinGt, x, y), b.bin(api.BinGe, x, y)
				eq, ne := b.bin(api.BinEq, x, y), b.bin(api.BinNe, x, y)
				said := 0
				for _, v := range []api.Value{lt, eq, gt} {
					if v == api.True {
						said++
					}
				}
				if said != 1 || ge != Not(lt) || le != Not(gt) || ne != Not(eq) || lt != b.bin(api.BinGt, y, x) || le != b.bin(api.BinGe, y, x) {
					t.Errorf("%s and %s", b.look(x), b.look(y))
				}
			}
		}
	}
}

// P9.7: what is put under a key, or at an index, is there, by whichever way it is put and asked for; nothing else is.
func TestWhatIsPutIsThere(t *testing.T) {
	r := rand.New(rand.NewSource(79))
	b := newBench(t, 4000)
	keys := []string{"", "a", "b", "ab", "\x00"}
	rec, list := b.rec(), b.arr(make([]api.Value, 5)...)
	fields := map[string]api.Value{}
	entries := make([]api.Value, 5)
	for range 400 {
		x := tag.Int(r.Intn(1000))
		if i := r.Intn(5); r.Intn(2) == 0 {
			if f := SetIndex(b.h, list, tag.Int(i), x); f != 0 {
				t.Fatal(f)
			}
			entries[i] = x
		} else {
			b.putSomehow(r.Intn(3), rec, keys[i], x)
			fields[keys[i]] = x
		}
		for i, want := range entries {
			if v, f := Index(b.h, list, tag.Int(i)); v != want || f != 0 {
				t.Fatalf("entry %d: %#x, %d", i, v, f)
			}
		}
		key := keys[r.Intn(5)]
		want, is := fields[key]
		b.checkField(rec, key, want, is)
	}
}

func (b *bench) putSomehow(way int, rec api.Value, key string, x api.Value) {
	b.t.Helper()
	f := 0
	switch way {
	case 0:
		f = SetField(b.h, rec, key, x)
	case 1:
		f = SetIndex(b.h, rec, b.str(key), x)
	case 2:
		_, f = Pure(b.h, api.PrimPut, with(rec, b.str(key), x))
	}
	if f != 0 {
		b.t.Fatal(f)
	}
}

func (b *bench) checkField(rec api.Value, key string, want api.Value, is bool) {
	b.t.Helper()
	k := b.str(key)
	field, f := Field(b.h, rec, key)
	at, g := Index(b.h, rec, k)
	got, _ := Pure(b.h, api.PrimGet, with(rec, k))
	has, _ := Pure(b.h, api.PrimHas, with(rec, k))
	if !is {
		if field != 0 || at != 0 || f != api.FaultField || g != api.FaultField || got != api.Nil || has != api.False {
			b.t.Fatalf("%q is there", key)
		}
		return
	}
	if field != want || at != want || f != 0 || g != 0 || got != want || has != api.True {
		b.t.Fatalf("%q is %#x", key, field)
	}
}
