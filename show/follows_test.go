package show

import (
	"fmt"
	"math/rand"
	"slices"
	"strings"
	"testing"

	"jacquard/api"
	"jacquard/heap"
	"jacquard/tag"
)

// scene is a heap with values that are drawn, and all of its words.
type scene struct {
	maker
	draw *rand.Rand
	all  []api.Value
}

// any draws a word of those that there are. Few different ones, so that much is alike.
func (s *scene) any() api.Value {
	few := []api.Value{tag.Int(0), tag.Int(-1), api.Nil, 3}
	if n := len(s.all); n > 0 && s.draw.Intn(3) > 0 {
		return s.all[s.draw.Intn(n)]
	}
	return few[s.draw.Intn(len(few))]
}

// add makes an object of parts that are there, so that nothing goes round.
func (s *scene) add() {
	s.t.Helper()
	var v api.Value
	switch s.draw.Intn(9) {
	case 0:
		v = s.str([]string{"", "a", "b"}[s.draw.Intn(3)])
	case 1:
		v = s.cplx(uint64(s.draw.Intn(2)), uint64(s.draw.Intn(2)))
	case 2:
		v = s.fun(s.draw.Intn(2), s.any())
	case 3:
		v = s.item(api.ObjMon+s.draw.Intn(3), s.draw.Intn(2))
	case 4:
		v = s.cell(s.any())
	case 5, 6:
		v = s.rec([][]string{{"x", "y"}, {"y", "x"}}[s.draw.Intn(2)], s.any(), s.any())
	default:
		l := make([]api.Value, s.draw.Intn(3))
		for i := range l {
			l[i] = s.any()
		}
		v = s.arr(l...)
	}
	s.all = append(s.all, v)
}

// turn writes other parts into objects, so that some go round.
func (s *scene) turn() {
	s.t.Helper()
	for _, v := range s.all {
		switch s.h.Kind(v) {
		case api.ObjRec:
			s.put(v, []string{"x", "y"}[s.draw.Intn(2)], s.any())
		case api.ObjCell:
			s.set(v, 0, s.any())
		case api.ObjArr:
			if n, _ := s.h.Len(v); n > 0 {
				s.set(v, s.draw.Intn(n), s.any())
			}
		}
	}
}

func newScene(t *testing.T, seed int64, objects int) *scene {
	t.Helper()
	s := &scene{maker: newMaker(t), draw: rand.New(rand.NewSource(seed))}
	for range objects {
		s.add()
	}
	return s
}

// parts are the parts of an object, with the keys that a record has for them.
func parts(h *heap.Heap, v api.Value) (keys []string, l []api.Value) {
	switch h.Kind(v) {
	case api.ObjArr:
		n, _ := h.Len(v)
		for i := range n {
			x, _ := h.At(v, i)
			l = append(l, x)
		}
	case api.ObjRec:
		keys, _ = h.Keys(v)
		for _, key := range keys {
			x, _ := h.Field(v, key)
			l = append(l, x)
		}
	case api.ObjCell:
		x, _ := h.At(v, 0)
		l = append(l, x)
	}
	return keys, l
}

// differences tells which of two words are not alike, by other means than Deep: from those that differ at first
// sight on, whatever has a part that differs does so, too, until nothing is added.
func differences(h *heap.Heap, all []api.Value) map[pair]int {
	differ := map[pair]int{}
	for again := true; again; {
		again = false
		for _, a := range all {
			for _, b := range all {
				p := pair{a, b}
				if differ[p] == 0 && differNow(h, differ, a, b) {
					differ[p] = 1
					again = true
				}
			}
		}
	}
	return differ
}

func differNow(h *heap.Heap, differ map[pair]int, a, b api.Value) bool {
	kind := h.Kind(a)
	switch {
	case Equal(h, a, b):
		return false
	case kind != h.Kind(b) || kind != api.ObjArr && kind != api.ObjRec && kind != api.ObjCell:
		return true
	}
	keys, l := parts(h, a)
	others, r := parts(h, b)
	if len(l) != len(r) {
		return true
	}
	for i, x := range l {
		j := i
		if kind == api.ObjRec {
			j = slices.Index(others, keys[i])
		}
		if j < 0 || differ[pair{x, r[j]}] > 0 {
			return true
		}
	}
	return false
}

// P4.1, P4.2, P4.5: Equal and Deep of all words of scenes that are drawn.
func TestAlikeAgainstModel(t *testing.T) {
	for seed := range int64(150) {
		s := newScene(t, seed, 5+int(seed)%25)
		if seed%3 > 0 {
			s.turn()
		}
		words := append([]api.Value{tag.Int(0), tag.Int(-1), api.Nil, 3, 13, api.MaxRef<<2 | 2}, s.all...)
		differ := differences(s.h, words)
		for _, a := range words {
			for _, b := range words {
				alike, e := Deep(s.h, a, b)
				if alike != (differ[pair{a, b}] == 0) || e != api.OK {
					t.Fatalf("seed %d: Deep of %s and %s: %v, %d", seed, shown(s.h, a), shown(s.h, b), alike, e)
				}
				turned, _ := Deep(s.h, b, a)
				same := Equal(s.h, a, b)
				if turned != alike || Equal(s.h, b, a) != same || same && !alike || a == b && !same {
					t.Fatalf("seed %d: %s and %s: %v, %v, %v", seed, shown(s.h, a), shown(s.h, b), alike, turned, same)
				}
			}
		}
	}
}

func shown(h *heap.Heap, v api.Value) string { return draft(h, v, nil) }

// draft is the text of a value, by other means than Text: within is a list of what one is within, the outermost
// first.
func draft(h *heap.Heap, v api.Value, within []api.Value) string {
	for i, x := range within {
		if x == v {
			return fmt.Sprintf("^%d", len(within)-i)
		}
	}
	keys, l := parts(h, v)
	texts := make([]string, len(l))
	for i, x := range l {
		texts[i] = draft(h, x, append(slices.Clone(within), v))
		if len(keys) > 0 {
			texts[i] = keys[i] + ": " + texts[i]
		}
	}
	all := strings.Join(texts, ", ")
	switch h.Kind(v) {
	case api.ObjArr:
		return "[" + all + "]"
	case api.ObjRec:
		return "{" + all + "}"
	case api.ObjCell:
		return "&" + all
	}
	return draftPlain(h, v)
}

func draftPlain(h *heap.Heap, v api.Value) string {
	names := []string{api.ObjMon: "monitor", api.ObjBox: "box", api.ObjThr: "thread"}
	switch kind := h.Kind(v); kind {
	case api.ObjStr:
		b, _ := h.Bytes(v)
		return fmt.Sprintf("%q", b) // the scenes' strings have no byte that Quote tells otherwise
	case api.ObjFun:
		f, _, _ := h.FunOf(v)
		return fmt.Sprintf("fn:%d", f)
	case api.ObjCplx:
		re, im, _ := h.CplxOf(v)
		return fmt.Sprintf("(%016x,%016x)", re, im)
	case api.ObjMon, api.ObjBox, api.ObjThr:
		n, _ := h.ItemOf(v)
		return fmt.Sprintf("%s:%d", names[kind], n)
	}
	switch {
	case v == api.Nil:
		return "nil"
	case v == 3:
		return "prim:0"
	case v&3 == 0:
		return fmt.Sprint(int64(v) >> 2)
	}
	return "?"
}

// P4.4: Text of all words of scenes that are drawn.
func TestTextAgainstModel(t *testing.T) {
	for seed := range int64(150) {
		s := newScene(t, seed, 4+int(seed)%9)
		if seed%3 > 0 {
			s.turn()
		}
		for _, v := range append([]api.Value{tag.Int(-1), api.Nil, 13}, s.all...) {
			want := shown(s.h, v)
			if len(want) > api.MaxShow {
				s.tooLong(want[:99], v)
				continue
			}
			s.text(v, want)
		}
	}
}

// P4.5: objects that are made in another order look the same.
func TestMadeInAnotherOrder(t *testing.T) {
	for seed := range int64(60) {
		s := newScene(t, seed, 12)
		s.turn()
		m := newMaker(t)
		for range s.draw.Intn(9) {
			m.str("beside")
		}
		to := again(s, m)
		for _, v := range s.all {
			one, e := Text(s.h, v)
			if e != api.OK {
				m.tooLong("made again", to[v])
				continue
			}
			m.text(to[v], string(one))
		}
	}
}

// again makes a scene's objects a second time, the last one first, and writes their parts when all are there. It
// tells which has become which.
func again(s *scene, m maker) map[api.Value]api.Value {
	to := map[api.Value]api.Value{}
	for _, v := range slices.Backward(s.all) {
		kind := s.h.Kind(v)
		keys, l := parts(s.h, v)
		none := make([]api.Value, len(l))
		switch kind {
		case api.ObjArr:
			to[v] = m.arr(none...)
		case api.ObjRec:
			to[v] = m.rec(keys, none...)
		case api.ObjCell:
			to[v] = m.cell(0)
		case api.ObjStr:
			b, _ := s.h.Bytes(v)
			to[v] = m.str(string(b))
		case api.ObjCplx:
			to[v] = m.cplx(s.bits(v))
		case api.ObjFun:
			f, _, _ := s.h.FunOf(v)
			to[v] = m.fun(f)
		default:
			n, _ := s.h.ItemOf(v)
			to[v] = m.item(kind, n)
		}
	}
	for _, v := range s.all {
		keys, l := parts(s.h, v)
		for i, x := range l {
			if y, there := to[x]; there {
				x = y
			}
			if len(keys) > 0 {
				m.put(to[v], keys[i], x)
			} else {
				m.set(to[v], i, x)
			}
		}
	}
	return to
}

func (s *scene) bits(v api.Value) (re, im uint64) {
	re, im, _ = s.h.CplxOf(v)
	return re, im
}

// P4.5: what is Deep alike without going round looks the same, if fields come in the same order.
func TestAlikeLooksTheSame(t *testing.T) {
	met := 0
	for seed := range int64(100) {
		s := newScene(t, seed, 25)
		// Records of one order alone.
		var l []api.Value
		for _, v := range s.all {
			if text := shown(s.h, v); !strings.Contains(text, "{y") && len(text) <= api.MaxShow {
				l = append(l, v)
			}
		}
		for _, a := range l {
			for _, b := range l {
				if alike, _ := Deep(s.h, a, b); alike && a != b {
					met++
					text, _ := Text(s.h, a)
					s.text(b, string(text))
				}
			}
		}
	}
	if met < 100 {
		t.Errorf("only %d were alike", met)
	}
}

// P4.5: what goes round may be alike and look otherwise.
func TestRoundLooksOtherwise(t *testing.T) {
	m := newMaker(t)
	one := m.arr(0)
	m.set(one, 0, one)
	two := m.arr(0)
	m.set(two, 0, m.arr(two))
	m.both("one array, and two", one, two, true)
	m.text(one, "[^1]")
	m.text(two, "[[^2]]")
}
