package prof

import (
	"cmp"
	"math/rand"
	"slices"
	"testing"

	"jacquard/api"
)

// What is drawn: one of the calls that count.
type call struct {
	name  string
	n, at int // a function, or a global
	kinds [2]int
	val   api.Value
	wrong bool // it names what is none
}

const drawnFuns, drawnGlobals = 5, 4

// draw draws a call; about one in six is wrong.
func draw(r *rand.Rand) call {
	c := call{name: []string{"begin", "begin", "loop", "pair", "pair", "wrote", "cool"}[r.Intn(7)]}
	c.n, c.at = r.Intn(drawnFuns), places[r.Intn(len(places))]
	c.kinds = [2]int{r.Intn(4), r.Intn(4)}
	if c.name == "wrote" {
		c.n, c.val = r.Intn(drawnGlobals), api.Value(r.Intn(4))
	}
	if r.Intn(6) > 0 {
		return c
	}
	c.wrong = true
	switch what := r.Intn(5); {
	case what == 0 && c.name == "pair":
		c.at = []int{-1, api.MaxCode}[r.Intn(2)]
	case what == 1 && c.name == "pair":
		c.kinds[r.Intn(2)] = []int{-1, 4}[r.Intn(2)]
	default:
		c.n = []int{-1, drawnFuns, drawnFuns + r.Intn(1000)}[r.Intn(3)]
	}
	return c
}

func (c call) do(p *Prof) api.Errno {
	switch c.name {
	case "begin":
		return p.Begin(c.n)
	case "loop":
		return p.Loop(c.n)
	case "pair":
		return p.Pair(c.n, c.at, c.kinds[0], c.kinds[1])
	case "wrote":
		return p.Wrote(c.n, c.val)
	}
	return p.Cool(c.n)
}

// drawMany draws calls, and makes them on a new profile.
func drawMany(t *testing.T, r *rand.Rand, most int) (*Prof, []call) {
	t.Helper()
	p := mustNew(t, drawnFuns, drawnGlobals)
	var l []call
	for range r.Intn(most) {
		c := draw(r)
		l = append(l, c)
		want := api.OK
		if c.wrong {
			want = api.ErrArg
		}
		if e := c.do(p); e != want {
			t.Fatalf("%v: %d, not %d", c, e, want)
		}
	}
	return p, l
}

// The model keeps nothing: it goes through all calls anew for each question.

func heatOf(l []call, f int) int {
	n := 0
	for _, c := range l {
		switch {
		case c.wrong || c.n != f:
		case c.name == "begin" || c.name == "loop":
			n++
		case c.name == "cool":
			n = 0
		}
	}
	return n
}

func kindsOf(l []call, f, at int) int {
	k := 0
	for _, bit := range []int{0, 1, 2, 3} {
		of := func(i int) bool {
			return slices.ContainsFunc(l, func(c call) bool {
				return !c.wrong && c.name == "pair" && c.n == f && c.at == at && c.kinds[i] == bit
			})
		}
		if of(0) {
			k += []int{1, 2, 4, 8}[bit]
		}
		if of(1) {
			k += []int{16, 32, 64, 128}[bit]
		}
	}
	return k
}

func writesOf(l []call, g int) []api.Value {
	var vals []api.Value
	for _, c := range l {
		if !c.wrong && c.name == "wrote" && c.n == g {
			vals = append(vals, c.val)
		}
	}
	return vals
}

func hotOf(l []call, least int) []int {
	var hot []int
	for f := range drawnFuns {
		if heatOf(l, f) >= max(least, 1) {
			hot = append(hot, f)
		}
	}
	slices.SortStableFunc(hot, func(a, b int) int { return cmp.Compare(heatOf(l, b), heatOf(l, a)) })
	return hot
}

func hold(t *testing.T, p *Prof, l []call) {
	t.Helper()
	for f := range drawnFuns {
		wantHeat(t, p, f, heatOf(l, f))
		for _, at := range places {
			wantKinds(t, p, f, at, kindsOf(l, f, at))
		}
	}
	var stable []api.Dep
	for g := range drawnGlobals {
		vals := writesOf(l, g)
		var last api.Value
		if len(vals) > 0 {
			last = vals[len(vals)-1]
		}
		if len(vals) == 1 {
			stable = append(stable, api.Dep{Global: g, Val: last})
		}
		wantWrites(t, p, g, len(vals), last)
	}
	wantStable(t, p, stable...)
	for least := -1; least < 12; least++ {
		wantHot(t, p, least, hotOf(l, least)...)
	}
}

// P14.1 to P14.3: drawn calls, right and wrong ones.
func TestDrawn(t *testing.T) {
	r := rand.New(rand.NewSource(14))
	for range 1500 {
		p, l := drawMany(t, r, 60)
		hold(t, p, l)
		if t.Failed() {
			t.Fatal(l)
		}
	}
}

// P14.4: in another order all is the same but last values (without Cool, which is no counting).
func TestOrderPlaysNoPart(t *testing.T) {
	r := rand.New(rand.NewSource(144))
	for range 1000 {
		_, l := drawMany(t, r, 60)
		l = slices.DeleteFunc(l, func(c call) bool { return c.name == "cool" })
		p, q := mustNew(t, drawnFuns, drawnGlobals), mustNew(t, drawnFuns, drawnGlobals)
		for _, c := range l {
			c.do(p)
		}
		other := slices.Clone(l)
		r.Shuffle(len(other), func(i, j int) { other[i], other[j] = other[j], other[i] })
		for _, c := range other {
			c.do(q)
		}
		hold(t, q, other)
		for g := range drawnGlobals {
			n, _, _ := p.Writes(g)
			v := api.Value(4 * g)
			well(t, p.Wrote(g, v), q.Wrote(g, v)) // now their last values are the same
			wantWrites(t, q, g, n+1, v)
		}
		if a, b := look(t, p, drawnFuns, drawnGlobals), look(t, q, drawnFuns, drawnGlobals); !slices.Equal(a, b) {
			t.Fatalf("%v\n%v\n%v\n%v", l, other, a, b)
		}
	}
}

// P14.4: no other function's heat, and of the same function nothing but what was counted; of globals nothing but that one.
func TestOneByOne(t *testing.T) {
	r := rand.New(rand.NewSource(1444))
	for range 300 {
		p, l := drawMany(t, r, 40)
		for range 10 {
			c := draw(r)
			var heats, writes []int
			for f := range drawnFuns {
				n, _ := p.Heat(f)
				heats = append(heats, n)
			}
			for g := range drawnGlobals {
				n, _, _ := p.Writes(g)
				writes = append(writes, n)
			}
			c.do(p)
			l = append(l, c)
			for f, n := range heats {
				if c.wrong || f != c.n || c.name == "pair" || c.name == "wrote" {
					wantHeat(t, p, f, n)
				}
			}
			for g, n := range writes {
				if got, _, _ := p.Writes(g); (g != c.n || c.name != "wrote") && got != n {
					t.Errorf("%v: Writes(%d) = %d, not %d", c, g, got, n)
				}
			}
		}
		hold(t, p, l)
		if t.Failed() {
			t.Fatal(l)
		}
	}
}

// Asking changes nothing, and profiles know nothing of each other.
func TestAskedAndApart(t *testing.T) {
	p, q := some(t), some(t)
	a := look(t, p, 3, 3)
	if b := look(t, p, 3, 3); !slices.Equal(a, b) {
		t.Errorf("asked twice:\n%v\n%v", a, b)
	}
	well(t, q.Begin(0), q.Loop(1), q.Cool(2), q.Pair(0, 0, 0, 0), q.Wrote(0, 4), q.Wrote(1, 4))
	if b := look(t, p, 3, 3); !slices.Equal(a, b) {
		t.Errorf("another profile counted:\n%v\n%v", a, b)
	}
}

// Memory: an answer may be written over, its spare room too, and stays as it was told.
func TestAnswersAreNew(t *testing.T) {
	p := some(t)
	well(t, p.Begin(1), p.Wrote(0, 4))
	before := look(t, p, 3, 3)
	hot, stable := p.Hot(1), p.Stable()
	keptHot, keptStable := p.Hot(1), p.Stable()
	for i := range hot[:cap(hot)] {
		hot[:cap(hot)][i] = 99
	}
	for i := range stable[:cap(stable)] {
		stable[:cap(stable)][i] = api.Dep{Global: 99, Val: 99}
	}
	if after := look(t, p, 3, 3); !slices.Equal(before, after) {
		t.Errorf("changed:\n%v\n%v", before, after)
	}
	well(t, p.Cool(2), p.Wrote(0, 8), p.Wrote(1, 8))
	if !slices.Equal(keptHot, []int{2, 0, 1}) || !slices.Equal(keptStable, []api.Dep{{Global: 0, Val: 4}, {Global: 1, Val: api.True}}) {
		t.Error(keptHot, keptStable)
	}
}
