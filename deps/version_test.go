package deps

import (
	"math"
	"testing"

	"jacquard/api"
)

// P15.2: numbers go on through all functions; what went wrong takes none.
func TestNumbers(t *testing.T) {
	d := mustNew(t, 3, 2)
	wantAdd(t, d, 1, on(0, 4), 0, api.OK)
	wantAdd(t, d, 1, on(0, 4), 0, api.ErrTime)
	wantAdd(t, d, 3, nil, 0, api.ErrArg)
	wantAdd(t, d, 0, on(1, 4), 1, api.OK)
	wantAdd(t, d, 2, on(0, 4, 0, 4), 0, api.ErrArg)
	wantAdd(t, d, 2, nil, 2, api.OK)
	wantDrop(t, d, 0, api.OK)
	wantAdd(t, d, 1, on(1, 8, 0, 8), 3, api.OK)
	for f, want := range [][3]int{{1, 1, 1}, {2, 3, 1}, {1, 2, 1}} {
		wantVersions(t, d, f, want[0])
		wantOf(t, d, f, want[1], want[2] == 1)
	}
	wantValid(t, d, 6, 1, 2, 3)
}

// P15.2: MaxVersions, ended ones too, of each function by itself.
func TestMaxVersions(t *testing.T) {
	d := mustNew(t, 3, 1)
	for id := range api.MaxVersions {
		wantVersions(t, d, 1, id)
		wantAdd(t, d, 1, on(0, 4), id, api.OK)
		wantVersions(t, d, 1, id+1)
		wantAdd(t, d, 1, nil, 0, api.ErrTime)
		wantOf(t, d, 1, id, true)
		if id%2 == 0 {
			wantDrop(t, d, id, api.OK)
		} else {
			wantWrote(t, d, 0, 8, id)
		}
		wantOf(t, d, 1, 0, false)
	}
	for range 3 {
		wantAdd(t, d, 1, nil, 0, api.ErrMany)
	}
	wantVersions(t, d, 1, api.MaxVersions)
	wantVersions(t, d, 0, 0)
	wantAdd(t, d, 0, nil, 4, api.OK)
	wantAdd(t, d, 2, nil, 5, api.OK)
	wantValid(t, d, 8, 4, 5)
}

// P15.2: all functions with all their versions.
func TestAllVersions(t *testing.T) {
	d := mustNew(t, api.MaxFuns, 2)
	for round := range api.MaxVersions {
		var want []int
		for i := range api.MaxFuns {
			id := round*api.MaxFuns + i
			wantAdd(t, d, api.MaxFuns-1-i, on(round%2, 4*id+4), id, api.OK)
			want = append(want, id)
		}
		wantValid(t, d, (round+1)*api.MaxFuns+1, want...)
		for f := range api.MaxFuns {
			wantOf(t, d, f, (round+1)*api.MaxFuns-1-f, true)
			wantVersions(t, d, f, round+1)
		}
		wantWrote(t, d, 1-round%2, 0)
		wantWrote(t, d, round%2, 0, want...)
		wantWrote(t, d, round%2, 4)
	}
	for f := range api.MaxFuns {
		wantAdd(t, d, f, nil, 0, api.ErrMany)
	}
	for id := range api.MaxFuns * api.MaxVersions {
		wantOn(t, d, id, on(id/api.MaxFuns%2, 4*id+4))
	}
	wantValid(t, d, api.MaxFuns*api.MaxVersions+1)
}

// P15.2: those that count on this global with another value, in order of their numbers, once.
func TestWrote(t *testing.T) {
	d := mustNew(t, 6, 3)
	wantAdd(t, d, 5, on(0, 4, 1, 8), 0, api.OK)
	wantAdd(t, d, 3, on(1, 8, 0, 12), 1, api.OK)
	wantAdd(t, d, 4, on(2, 4), 2, api.OK)
	wantAdd(t, d, 0, nil, 3, api.OK)
	wantAdd(t, d, 2, on(2, 8, 1, 8, 0, 4), 4, api.OK)
	wantAdd(t, d, 1, on(1, 4), 5, api.OK)
	wantWrote(t, d, 1, 8, 5)
	wantValid(t, d, 7, 0, 1, 2, 3, 4)
	wantWrote(t, d, 0, 4, 1)
	wantValid(t, d, 7, 0, 2, 3, 4)
	wantWrote(t, d, 1, 8)
	wantDrop(t, d, 4, api.OK)
	wantWrote(t, d, 2, 0, 2)
	wantWrote(t, d, 0, 8, 0)
	wantValid(t, d, 7, 3)
	wantWrote(t, d, 0, 4)
	for g := range 3 {
		wantWrote(t, d, g, api.Value(100*g))
	}
	wantValid(t, d, 7, 3)
	wantOf(t, d, 5, 0, false)
	wantOf(t, d, 0, 3, true)
}

// P15.2: ended by one of their globals, wherever it stands in the list.
func TestWroteEachPlace(t *testing.T) {
	for _, order := range [][]int{{0, 1, 2, 3}, {3, 2, 1, 0}, {2, 0, 3, 1}} {
		for g := range 5 {
			d := mustNew(t, 1, 5)
			var l []api.Dep
			for _, x := range order {
				l = append(l, api.Dep{Global: x, Val: api.Value(4 * x)})
			}
			wantAdd(t, d, 0, l, 0, api.OK)
			wantWrote(t, d, g, api.Value(4*g))
			wantValid(t, d, 2, 0)
			if g == 4 {
				wantWrote(t, d, g, 99)
				wantValid(t, d, 2, 0)
				continue
			}
			wantWrote(t, d, g, api.Value(4*g+4), 0)
			wantValid(t, d, 2)
		}
	}
}

// P15.2: a value is another one just if the word is another, values or none.
func TestWroteWords(t *testing.T) {
	words := []api.Value{0, 1, 2, 3, 4, 5, 6, 8, 9, 13, 1 << 32, 1<<32 + 4, 1 << 63, math.MaxInt64, math.MaxUint64}
	for _, a := range words {
		for _, b := range words {
			d := mustNew(t, 1, 1)
			wantAdd(t, d, 0, []api.Dep{{Global: 0, Val: a}}, 0, api.OK)
			if a == b {
				wantWrote(t, d, 0, b)
				wantOf(t, d, 0, 0, true)
			} else {
				wantWrote(t, d, 0, b, 0)
				wantOf(t, d, 0, 0, false)
			}
		}
	}
}

// P15.2: what was written ahead of Add plays no part.
func TestWroteAhead(t *testing.T) {
	d := mustNew(t, 2, 1)
	wantWrote(t, d, 0, 8)
	wantAdd(t, d, 0, on(0, 4), 0, api.OK)
	wantValid(t, d, 2, 0)
	wantWrote(t, d, 0, 4)
	wantAdd(t, d, 1, on(0, 8), 1, api.OK)
	wantValid(t, d, 3, 0, 1)
	wantWrote(t, d, 0, 8, 0)
	wantValid(t, d, 3, 1)
}

// P15.2: that version alone; again, too.
func TestDrop(t *testing.T) {
	d := some(t)
	wantAdd(t, d, 1, on(0, 4), 7, api.OK)
	wantDrop(t, d, 2, api.OK)
	wantValid(t, d, 9, 1, 7)
	for range 2 {
		for _, id := range []int{0, 2, 6} {
			wantDrop(t, d, id, api.OK)
		}
	}
	wantValid(t, d, 9, 1, 7)
	wantVersions(t, d, 2, 2)
	wantOf(t, d, 2, 0, false)
	wantWrote(t, d, 0, 8, 7)
	wantDrop(t, d, 7, api.OK)
	wantAdd(t, d, 2, nil, 8, api.OK)
	wantValid(t, d, 10, 1, 8)
}

// P15.3: as it was handed in, of those that ended too.
func TestOn(t *testing.T) {
	d := mustNew(t, 5, 4)
	lists := [][]api.Dep{on(3, 4, 0, 8, 2, 4), nil, on(1, 0), {}, on(0, 1, 1, 5, 2, 9, 3, math.MaxInt)}
	for f, l := range lists {
		wantAdd(t, d, f, l, f, api.OK)
	}
	want := func() {
		t.Helper()
		for id, l := range lists {
			wantOn(t, d, id, l)
		}
		wantOn(t, d, 5, nil)
		wantOn(t, d, -1, nil)
	}
	want()
	wantWrote(t, d, 0, 2, 0, 4)
	want()
	wantWrote(t, d, 1, 2, 2)
	want()
	wantDrop(t, d, 1, api.OK)
	want()
}
