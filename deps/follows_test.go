package deps

import (
	"math/rand"
	"slices"
	"testing"

	"jacquard/api"
)

// What is drawn: one of the calls that change something, and what came of it.
type call struct {
	name string
	n    int // a function, a global, or a version
	on   []api.Dep
	val  api.Value
	id   int // Add's answer
	e    api.Errno
}

const drawnFuns, drawnGlobals = 4, 3

// draw draws a call; n is how many versions there are. About one in six names what is none.
func draw(r *rand.Rand, n int) call {
	c := call{name: []string{"add", "add", "add", "wrote", "wrote", "drop"}[r.Intn(6)]}
	most := drawnFuns
	switch c.name {
	case "add":
		c.on = drawList(r)
	case "wrote":
		c.val, most = api.Value(r.Intn(3)), drawnGlobals
	case "drop":
		most = n
	}
	if most == 0 || r.Intn(6) == 0 {
		c.n = []int{-1, most, most + r.Intn(1000)}[r.Intn(3)]
	} else {
		c.n = r.Intn(most)
	}
	return c
}

// drawList draws what a version counts on; about one in five names what is no global, or one twice.
func drawList(r *rand.Rand) []api.Dep {
	var l []api.Dep
	for _, g := range r.Perm(drawnGlobals)[:r.Intn(drawnGlobals+1)] {
		l = append(l, api.Dep{Global: g, Val: api.Value(r.Intn(3))})
	}
	if len(l) > 0 && r.Intn(5) == 0 {
		g := []int{l[0].Global, -1, drawnGlobals}[r.Intn(3)]
		l = slices.Insert(l, r.Intn(len(l)+1), api.Dep{Global: g, Val: api.Value(r.Intn(3))})
	}
	return l
}

// The model keeps nothing: it goes through all calls anew for each question.

// addedOf tells the calls that added versions of a function (of all of them, if f is -1), by their places.
func addedOf(l []call, f int) []int {
	var at []int
	for i, c := range l {
		if c.name == "add" && c.e == api.OK && (f == -1 || c.n == f) {
			at = append(at, i)
		}
	}
	return at
}

// stillValid says whether the version that was added at a place is valid behind all calls.
func stillValid(l []call, at int) bool {
	added := l[at]
	return !slices.ContainsFunc(l[at+1:], func(c call) bool {
		if c.e != api.OK || c.name == "add" {
			return false
		}
		if c.name == "drop" {
			return c.n == added.id
		}
		return slices.ContainsFunc(added.on, func(x api.Dep) bool { return x.Global == c.n && x.Val != c.val })
	})
}

// validIds tells the numbers of valid versions of a function (of all of them, if f is -1).
func validIds(l []call, f int) []int {
	var ids []int
	for _, at := range addedOf(l, f) {
		if stillValid(l, at) {
			ids = append(ids, l[at].id)
		}
	}
	return ids
}

func isWrongList(l []api.Dep) bool {
	times := map[int]int{}
	for _, x := range l {
		times[x.Global]++
		if x.Global < 0 || x.Global >= drawnGlobals || times[x.Global] > 1 {
			return true
		}
	}
	return false
}

// foretell says what a call answers behind others.
func foretell(l []call, c call) (id int, e api.Errno) {
	switch c.name {
	case "add":
		switch {
		case c.n < 0 || c.n >= drawnFuns || isWrongList(c.on):
			return 0, api.ErrArg
		case len(validIds(l, c.n)) > 0:
			return 0, api.ErrTime
		case len(addedOf(l, c.n)) == 4:
			return 0, api.ErrMany
		}
		return len(addedOf(l, -1)), api.OK
	case "wrote":
		if c.n < 0 || c.n >= drawnGlobals {
			return 0, api.ErrArg
		}
	case "drop":
		if c.n < 0 || c.n >= len(addedOf(l, -1)) {
			return 0, api.ErrArg
		}
	}
	return 0, api.OK
}

// do makes a call, and holds its answer against the model; it tells the calls with that one behind.
func do(t *testing.T, d *Deps, l []call, c call) []call {
	t.Helper()
	c.id, c.e = foretell(l, c)
	before := validIds(l, -1)
	l = append(l, c)
	switch c.name {
	case "add":
		wantAdd(t, d, c.n, c.on, c.id, c.e)
	case "drop":
		wantDrop(t, d, c.n, c.e)
	case "wrote":
		after := validIds(l, -1)
		ended := slices.DeleteFunc(before, func(id int) bool { return slices.Contains(after, id) })
		if ids, e := d.Wrote(c.n, c.val); !slices.Equal(ids, ended) || e != c.e {
			t.Errorf("Wrote(%d, %d) = %v, %d, not %v, %d", c.n, c.val, ids, e, ended, c.e)
		}
	}
	return l
}

// hold holds all that can be asked against the model.
func hold(t *testing.T, d *Deps, l []call) {
	t.Helper()
	for f := range drawnFuns {
		wantVersions(t, d, f, len(addedOf(l, f)))
		if ids := validIds(l, f); len(ids) > 0 {
			wantOf(t, d, f, ids[0], true)
		} else {
			wantOf(t, d, f, 0, false)
		}
	}
	all := addedOf(l, -1)
	for id, at := range all {
		wantOn(t, d, id, l[at].on)
	}
	wantOn(t, d, len(all), nil)
	wantValid(t, d, len(all)+2, validIds(l, -1)...)
}

// P15.1 to P15.3: drawn calls, right and wrong ones.
func TestDrawn(t *testing.T) {
	r := rand.New(rand.NewSource(15))
	for range 2000 {
		d := mustNew(t, drawnFuns, drawnGlobals)
		var l []call
		for range r.Intn(60) {
			l = do(t, d, l, draw(r, len(addedOf(l, -1))))
			hold(t, d, l)
		}
		if t.Failed() {
			t.Fatal(l)
		}
	}
}

// P15.4: what holds at any time, asked of the registry alone.
func TestAnyTime(t *testing.T) {
	r := rand.New(rand.NewSource(154))
	for range 1000 {
		d := mustNew(t, drawnFuns, drawnGlobals)
		n := 0
		var owner []int              // the function of each version
		ended := map[int]bool{}      // what was seen to be valid no more
		wrote := map[int][]api.Dep{} // all that was written since a version was added
		for range r.Intn(80) {
			switch c := draw(r, n); c.name {
			case "add":
				if id, e := d.Add(c.n, c.on); e == api.OK {
					if id != n || !d.Valid(id) {
						t.Fatalf("version %d is the next one, Add told %d", n, id)
					}
					owner = append(owner, c.n)
					n++
				}
			case "drop":
				if d.Drop(c.n) == api.OK && d.Valid(c.n) {
					t.Fatalf("version %d was dropped, and is valid", c.n)
				}
			case "wrote":
				if _, e := d.Wrote(c.n, c.val); e == api.OK {
					for id := range n {
						wrote[id] = append(wrote[id], api.Dep{Global: c.n, Val: c.val})
					}
				}
			}
			wantAnyTime(t, d, owner, ended, wrote)
		}
		if t.Failed() {
			return
		}
	}
}

// wantAnyTime holds P15.4's words, and notes what is valid no more.
func wantAnyTime(t *testing.T, d *Deps, owner []int, ended map[int]bool, wrote map[int][]api.Dep) {
	t.Helper()
	valid, had := map[int]int{}, map[int]int{}
	for id, f := range owner {
		had[f]++
		if !d.Valid(id) {
			ended[id] = true
			continue
		}
		valid[f]++
		if at, ok := d.Of(f); !ok || at != id {
			t.Errorf("version %d of function %d is valid, Of tells %d, %v", id, f, at, ok)
		}
		if ended[id] {
			t.Errorf("version %d is valid again", id)
		}
		for _, x := range d.On(id) {
			if slices.ContainsFunc(wrote[id], func(w api.Dep) bool { return w.Global == x.Global && w.Val != x.Val }) {
				t.Errorf("version %d counts on %v, which was written otherwise", id, x)
			}
		}
	}
	for f := range drawnFuns {
		if valid[f] > 1 || had[f] > api.MaxVersions {
			t.Errorf("function %d has %d valid versions of %d", f, valid[f], had[f])
		}
		wantVersions(t, d, f, had[f])
	}
}

// Asking changes nothing, and registries know nothing of each other.
func TestAskedAndApart(t *testing.T) {
	d, other := some(t), some(t)
	a := look(t, d, 4)
	if b := look(t, d, 4); !slices.Equal(a, b) {
		t.Errorf("asked twice:\n%v\n%v", a, b)
	}
	wantWrote(t, other, 2, 0, 1)
	wantDrop(t, other, 2, api.OK)
	wantAdd(t, other, 1, on(0, 4), 7, api.OK)
	if b := look(t, d, 4); !slices.Equal(a, b) {
		t.Errorf("another registry changed:\n%v\n%v", a, b)
	}
}

// spoil writes over a list, its spare room too.
func spoil[T any](l []T, x T) {
	l = l[:cap(l)]
	for i := range l {
		l[i] = x
	}
}

// Memory: what is handed in is neither changed nor kept, its spare room included.
func TestHandedInIsNotKept(t *testing.T) {
	d := mustNew(t, 1, 4)
	room := on(3, 4, 1, 8, 2, 12, 0, 16)
	l := room[:2]
	wantAdd(t, d, 0, l, 0, api.OK)
	if !slices.Equal(room, on(3, 4, 1, 8, 2, 12, 0, 16)) {
		t.Errorf("handed in, and changed: %v", room)
	}
	spoil(l, api.Dep{Global: 0, Val: 99})
	wantOn(t, d, 0, on(3, 4, 1, 8))
	wantWrote(t, d, 1, 8)
	wantWrote(t, d, 0, 98)
	wantValid(t, d, 2, 0)
	wantWrote(t, d, 3, 8, 0)
	wantOn(t, d, 0, on(3, 4, 1, 8))
}

// Memory: an answer may be written over, its spare room too, and stays as it was told.
func TestAnswersAreNew(t *testing.T) {
	d := some(t)
	before := look(t, d, 4)
	kept := d.On(2)
	spoil(d.On(2), api.Dep{Global: 2, Val: 99})
	spoil(d.On(0), api.Dep{Global: 2, Val: 99})
	if after := look(t, d, 4); !slices.Equal(before, after) {
		t.Errorf("changed:\n%v\n%v", before, after)
	}
	ids, e := d.Wrote(0, 8)
	told := slices.Clone(ids)
	wantWrote(t, d, 2, 8, 1)
	if !slices.Equal(ids, told) || !slices.Equal(ids, []int{2}) || e != api.OK {
		t.Errorf("told %v, then %v", told, ids)
	}
	after := look(t, d, 4)
	spoil(ids, 99)
	if again := look(t, d, 4); !slices.Equal(after, again) {
		t.Errorf("changed:\n%v\n%v", after, again)
	}
	if !slices.Equal(kept, on(1, 8, 0, 4)) {
		t.Error(kept)
	}
}
