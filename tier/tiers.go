package tier

import (
	"jacquard/api"
	"jacquard/base"
	"jacquard/deps"
	"jacquard/heap"
	"jacquard/opt"
	"jacquard/prof"
	"jacquard/tag"
)

// tiers oversees a machine: it counts what calls do, and has the versions by which they run.
type tiers struct {
	image    api.Image
	heap     *heap.Heap
	prof     *prof.Prof
	deps     *deps.Deps
	versions []*version // by number
	latest   []*version // by function: valid or not; nil: it had none
	changes  []api.Change
}

// begin: the machine is there. (Nothing can have happened in it yet.)
func (t *tiers) begin(m *base.Machine) {
	t.image, t.heap = m.Image(), m.Heap()
	funs, globals := len(t.image.Funs), t.image.Globals
	t.prof, _ = prof.New(funs, globals) // of an image that can be run there are as many as may be
	t.deps, _ = deps.New(funs, globals)
	t.latest = make([]*version, funs)
}

// add makes a version of a function.
func (t *tiers) add(f int, how api.How) api.Errno {
	had, e := t.deps.Versions(f)
	if e != api.OK || !opt.IsHow(how) {
		return api.ErrArg
	}
	if _, is := t.deps.Of(f); is {
		return api.ErrTime
	}
	if had >= api.MaxVersions {
		return api.ErrMany
	}
	code, e := opt.Make(t.image, f, how, t.known(), t.seen())
	if e != api.OK {
		return e
	}
	id, _ := t.deps.Add(f, code.Deps()) // what could be wrong was asked above
	v := newVersion(t, id, code)
	t.versions = append(t.versions, v)
	t.latest[f] = v
	t.tell(api.TierMade, v)
	return api.OK
}

// known are the globals that were written just once. (A thread that is spawned may be handed, and write, words that are no values.)
func (t *tiers) known() []api.Known {
	var l []api.Known
	for _, d := range t.prof.Stable() {
		if tag.Kind(d.Val) != api.KindNone {
			l = append(l, api.Known{Global: d.Global, Val: d.Val, Fun: t.functionOf(d.Val)})
		}
	}
	return l
}

// functionOf is the function that a value is one of, without cells; -1: it is none.
func (t *tiers) functionOf(v api.Value) int {
	f, cells, e := t.heap.FunOf(v)
	if e != api.OK || len(cells) > 0 || f >= len(t.image.Funs) {
		return -1
	}
	return f
}

// seen is what all operations had to do with.
func (t *tiers) seen() []api.Seen {
	var l []api.Seen
	for f, c := range t.image.Funs {
		for at, i := range c.Code {
			if i.Op != api.OpBin && i.Op != api.OpNeg {
				continue
			}
			if kinds, _ := t.prof.Kinds(f, at); kinds != 0 {
				l = append(l, api.Seen{Fun: f, At: at, Kinds: kinds})
			}
		}
	}
	return l
}

// tell: something happened to a version.
func (t *tiers) tell(kind int, v *version) {
	t.changes = append(t.changes, api.Change{Kind: kind, Id: v.id, Fun: v.code.Fun()})
}

// Began: a call.
func (t *tiers) Began(f int) { t.prof.Begin(f) }

// Looped: a turn.
func (t *tiers) Looped(f int) { t.prof.Loop(f) }

// Had: what an operation has to do with.
func (t *tiers) Had(f, at int, a, b api.Value) { t.prof.Pair(f, at, t.kindOf(a), t.kindOf(b)) }

// kindOf is a value's, as prof tells kinds apart.
func (t *tiers) kindOf(v api.Value) int {
	if tag.Kind(v) == api.KindInt {
		return 0
	}
	switch t.heap.Kind(v) {
	case api.ObjStr:
		return 1
	case api.ObjCplx:
		return 2
	}
	return 3
}

// Wrote: a global. What counts on another value ends.
func (t *tiers) Wrote(g int, v api.Value) {
	t.prof.Wrote(g, v)
	ended, _ := t.deps.Wrote(g, v)
	for _, id := range ended {
		t.tell(api.TierEnded, t.versions[id])
	}
}

// Version is what a call that begins now runs by.
func (t *tiers) Version(f int) base.Version {
	v := t.latest[f]
	if v == nil || !t.deps.Valid(v.id) {
		return nil
	}
	return v
}
