package prof

import (
	"math"
	"slices"
	"testing"

	"jacquard/api"
)

func wantHeat(t *testing.T, p *Prof, f, want int) {
	t.Helper()
	if n, e := p.Heat(f); n != want || e != api.OK {
		t.Errorf("Heat(%d) = %d, %d, not %d", f, n, e, want)
	}
}

func wantKinds(t *testing.T, p *Prof, f, at, want int) {
	t.Helper()
	if k, e := p.Kinds(f, at); k != want || e != api.OK {
		t.Errorf("Kinds(%d, %d) = %d, %d, not %d", f, at, k, e, want)
	}
}

func wantWrites(t *testing.T, p *Prof, g, n int, v api.Value) {
	t.Helper()
	if gotN, gotV, e := p.Writes(g); gotN != n || gotV != v || e != api.OK {
		t.Errorf("Writes(%d) = %d, %d, %d, not %d, %d", g, gotN, gotV, e, n, v)
	}
}

func wantHot(t *testing.T, p *Prof, least int, want ...int) {
	t.Helper()
	if l := p.Hot(least); !slices.Equal(l, want) {
		t.Errorf("Hot(%d) = %v, not %v", least, l, want)
	}
}

func wantStable(t *testing.T, p *Prof, want ...api.Dep) {
	t.Helper()
	if l := p.Stable(); !slices.Equal(l, want) {
		t.Errorf("Stable() = %v, not %v", l, want)
	}
}

// P14.2: calls and turns are one more each, together.
func TestHeat(t *testing.T) {
	p := mustNew(t, 4, 1)
	for i := range 100 {
		well(t, p.Begin(1))
		wantHeat(t, p, 1, 2*i+1)
		well(t, p.Loop(1))
		wantHeat(t, p, 1, 2*i+2)
	}
	well(t, p.Loop(3))
	for f, want := range []int{0, 200, 0, 1} {
		wantHeat(t, p, f, want)
	}
	well(t, p.Pair(0, 1, 2, 3), p.Wrote(0, 8))
	wantHeat(t, p, 0, 0)
}

// P14.2: MaxCount at most. So many calls are too many for a test, so the counter is set.
func TestHeatMost(t *testing.T) {
	for i, call := range []func(*Prof, int) api.Errno{(*Prof).Begin, (*Prof).Loop} {
		p := mustNew(t, 3, 1)
		p.heats[1].n = api.MaxCount - 2
		well(t, p.Begin(0))
		for k, want := range []int{api.MaxCount - 1, api.MaxCount, api.MaxCount, api.MaxCount} {
			well(t, call(p, 1))
			if n, e := p.Heat(1); n != want || e != api.OK {
				t.Errorf("call %d, %d times: %d, %d", i, k+1, n, e)
			}
		}
		wantHeat(t, p, 0, 1)
		wantHeat(t, p, 2, 0)
		wantHot(t, p, api.MaxCount, 1)
		wantHot(t, p, api.MaxCount+1)
		well(t, p.Cool(1), call(p, 1))
		wantHeat(t, p, 1, 1)
	}
}

// P14.2: each pair of kinds by itself.
func TestPair(t *testing.T) {
	bits := []int{1, 2, 4, 8}
	for a := range 4 {
		for b := range 4 {
			p := mustNew(t, 2, 0)
			for range 3 {
				well(t, p.Pair(1, 9, a, b))
				wantKinds(t, p, 1, 9, bits[a]+16*bits[b])
			}
			wantKinds(t, p, 0, 9, 0)
		}
	}
}

// P14.2: bits stay set; those of one operand and of the other are told apart.
func TestPairBitsStay(t *testing.T) {
	p := mustNew(t, 1, 0)
	for _, c := range []struct{ a, b, want int }{
		{0, 1, 1 + 32}, {2, 1, 1 + 4 + 32}, {0, 1, 1 + 4 + 32}, {0, 0, 1 + 4 + 16 + 32}, {3, 3, 1 + 4 + 8 + 16 + 32 + 128},
		{1, 3, 1 + 2 + 4 + 8 + 16 + 32 + 128}, {1, 2, 255}, {0, 0, 255}, {3, 0, 255},
	} {
		well(t, p.Pair(0, 3, c.a, c.b))
		wantKinds(t, p, 0, 3, c.want)
	}
	wantKinds(t, p, 0, 2, 0)
	wantKinds(t, p, 0, 4, 0)
}

// P14.2: from 0 to MaxCode - 1, each place by itself, of each function by itself.
func TestPlaces(t *testing.T) {
	p := mustNew(t, api.MaxFuns, 0)
	want := func(f, at int) (a, b int) { return (f + at) % 4, (f/3 + at/5) % 4 }
	funs := []int{0, 1, 2, 5, 7, 255, 256, api.MaxFuns - 2, api.MaxFuns - 1}
	for _, f := range funs {
		for _, at := range places {
			a, b := want(f, at)
			well(t, p.Pair(f, at, a, b))
		}
	}
	for f := range api.MaxFuns {
		for _, at := range places {
			k := 0
			if slices.Contains(funs, f) {
				a, b := want(f, at)
				k = 1<<a + 16<<b
			}
			wantKinds(t, p, f, at, k)
		}
	}
	wantHot(t, p, 0)
}

// P14.2: all places of a function.
func TestAllPlaces(t *testing.T) {
	p := mustNew(t, 2, 0)
	for at := range api.MaxCode {
		well(t, p.Pair(1, at, at%4, at/4%4))
	}
	for at := range api.MaxCode {
		wantKinds(t, p, 1, at, 1<<(at%4)+16<<(at/4%4))
		wantKinds(t, p, 0, at, 0)
	}
}

// P14.2: any word is a last value, whether it is a value or not.
func TestWrote(t *testing.T) {
	p := mustNew(t, 1, 3)
	n := 0
	for _, v := range []api.Value{4, api.Nil, api.Nil, 0, api.True, 2, 13, math.MaxUint64, 1 << 63, 0, 7} {
		n++
		well(t, p.Wrote(1, v))
		wantWrites(t, p, 1, n, v)
	}
	wantWrites(t, p, 0, 0, 0)
	wantWrites(t, p, 2, 0, 0)
	wantHeat(t, p, 0, 0)
}

// P14.2: MaxCount at most, but the last value is still the last one.
func TestWroteMost(t *testing.T) {
	p := mustNew(t, 1, 2)
	p.writes[0].n = api.MaxCount - 2
	for i, want := range []int{api.MaxCount - 1, api.MaxCount, api.MaxCount, api.MaxCount} {
		v := api.Value(4 * (i + 1))
		well(t, p.Wrote(0, v))
		wantWrites(t, p, 0, want, v)
	}
	wantWrites(t, p, 1, 0, 0)
	wantStable(t, p)
}

// P14.3: just one write, whatever was written; in order of the globals, not of the writes.
func TestStable(t *testing.T) {
	p := mustNew(t, 1, 6)
	wantStable(t, p)
	well(t, p.Wrote(4, api.True))
	wantStable(t, p, api.Dep{Global: 4, Val: api.True})
	well(t, p.Wrote(0, math.MaxUint64), p.Wrote(3, 0), p.Wrote(2, 8))
	wantStable(t, p, api.Dep{Global: 0, Val: math.MaxUint64}, api.Dep{Global: 2, Val: 8}, api.Dep{Global: 3, Val: 0}, api.Dep{Global: 4, Val: api.True})
	well(t, p.Wrote(2, 8)) // the same value is another write
	wantStable(t, p, api.Dep{Global: 0, Val: math.MaxUint64}, api.Dep{Global: 3, Val: 0}, api.Dep{Global: 4, Val: api.True})
	well(t, p.Wrote(0, 8), p.Wrote(2, 12), p.Wrote(5, api.Nil))
	wantStable(t, p, api.Dep{Global: 3, Val: 0}, api.Dep{Global: 4, Val: api.True}, api.Dep{Global: 5, Val: api.Nil})
}

// P14.3: all globals that may be.
func TestStableMany(t *testing.T) {
	p := mustNew(t, 1, api.MaxGlobals)
	var want []api.Dep
	for g := range api.MaxGlobals {
		well(t, p.Wrote(api.MaxGlobals-1-g, api.Value(4*g)))
		want = append(want, api.Dep{Global: g, Val: api.Value(4 * (api.MaxGlobals - 1 - g))})
	}
	wantStable(t, p, want...)
}

// P14.3: least itself is enough; without heat none is hot, whatever least is.
func TestHot(t *testing.T) {
	p := mustNew(t, 7, 0)
	for f, n := range []int{2, 0, 5, 2, 1, 5, 0} {
		for i := range n {
			if i%2 == 0 {
				well(t, p.Begin(f))
			} else {
				well(t, p.Loop(f))
			}
		}
	}
	for _, least := range []int{math.MinInt, -5, -1, 0, 1} {
		wantHot(t, p, least, 2, 5, 0, 3, 4)
	}
	wantHot(t, p, 2, 2, 5, 0, 3)
	for _, least := range []int{3, 4, 5} {
		wantHot(t, p, least, 2, 5)
	}
	for _, least := range []int{6, api.MaxCount, math.MaxInt} {
		wantHot(t, p, least)
	}
	well(t, p.Loop(5), p.Begin(4), p.Begin(4))
	wantHot(t, p, 2, 5, 2, 4, 0, 3)
}

// P14.3: all functions that may be: of the same heat in order.
func TestHotMany(t *testing.T) {
	p := mustNew(t, api.MaxFuns, 0)
	var order []int
	for f := range api.MaxFuns {
		order = append(order, f)
		well(t, p.Begin(f))
	}
	wantHot(t, p, 1, order...)
	for f := range api.MaxFuns {
		for range f % 3 {
			well(t, p.Loop(f))
		}
	}
	var want []int
	for _, rest := range []int{2, 1, 0} {
		for f := rest; f < api.MaxFuns; f += 3 {
			want = append(want, f)
		}
	}
	wantHot(t, p, 0, want...)
}

// P14.3: that function's heat, and nothing else; it is counted anew.
func TestCool(t *testing.T) {
	p := some(t)
	well(t, p.Cool(2))
	wantHeat(t, p, 2, 0)
	wantHeat(t, p, 0, 1)
	wantHot(t, p, 0, 0)
	wantKinds(t, p, 2, 7, 17)
	wantKinds(t, p, 2, api.MaxCode-1, 8+128)
	wantKinds(t, p, 0, 0, 2+64)
	wantWrites(t, p, 2, 2, api.Nil)
	wantStable(t, p, api.Dep{Global: 1, Val: api.True})
	well(t, p.Cool(2), p.Cool(1)) // without heat it stays so
	wantHeat(t, p, 2, 0)
	wantHeat(t, p, 1, 0)
	well(t, p.Loop(2), p.Begin(2))
	wantHeat(t, p, 2, 2)
	wantHot(t, p, 0, 2, 0)
}
