package scope

import (
	"math"
	"math/rand"
	"reflect"
	"slices"
	"strconv"
	"testing"

	"jacquard/api"
	"jacquard/parse"
)

// drawer draws programs, as lists of nodes.
type drawer struct {
	*rand.Rand
	l     []api.Node
	fun   int  // how many functions are about
	loop  int  // how many loops of the function are about
	wild  bool // faults are drawn more often
	names int
}

func (d *drawer) put(kind, n int, text string) {
	d.l = append(d.l, api.Node{Kind: kind, N: n, Text: text, At: 3*len(d.l) + 5})
}

func (d *drawer) name() string {
	if d.wild && d.Intn(40) == 0 {
		return PrimName(d.Intn(api.Prims))
	}
	return string("abcdefghijkl"[d.Intn(d.names)])
}

// used: a primitive is no fault there.
func (d *drawer) used() string {
	if d.Intn(12) == 0 {
		return PrimName(d.Intn(api.Prims))
	}
	return d.name()
}

func (d *drawer) block(deep int) {
	n := d.Intn(4)
	d.put(api.NodeBlock, n, "")
	for range n {
		d.statement(deep - 1)
	}
}

func (d *drawer) function(kind int, text string, deep int) {
	params := d.Intn(3)
	d.put(kind, params+1, text)
	d.l[len(d.l)-1].Num = params
	for range params {
		d.put(api.NodeName, 0, d.name())
	}
	loop := d.loop
	d.fun, d.loop = d.fun+1, 0
	d.block(deep)
	d.fun, d.loop = d.fun-1, loop
}

func (d *drawer) statement(deep int) {
	if deep <= 0 {
		d.put(api.NodeExpr, 1, "")
		d.put(api.NodeName, 0, d.used())
		return
	}
	switch kind := api.NodeBlock + d.Intn(api.NodeExpr-api.NodeBlock+4); kind {
	case api.NodeBlock:
		d.block(deep)
	case api.NodeVar:
		d.put(kind, 1, d.name())
		d.expression(deep - 1)
	case api.NodeSet:
		d.set(deep)
	case api.NodeIf:
		d.choice(deep)
	case api.NodeWhile:
		d.put(kind, 2, "")
		d.expression(deep - 1)
		d.loop++
		d.block(deep)
		d.loop--
	case api.NodeBreak, api.NodeContinue:
		d.jump(kind, d.loop > 0)
	case api.NodeReturn:
		d.jump(kind, d.fun > 0)
	case api.NodeThrow:
		d.put(kind, 1, "")
		d.expression(deep - 1)
	case api.NodeTry:
		d.put(kind, 2, d.name())
		d.block(deep)
		d.block(deep)
	case api.NodeFn:
		d.function(kind, d.name(), deep)
	default:
		d.put(api.NodeExpr, 1, "")
		d.expression(deep)
	}
}

func (d *drawer) jump(kind int, may bool) {
	if may || d.wild && d.Intn(4) == 0 {
		d.put(kind, 0, "")
	} else {
		d.put(api.NodeBlock, 0, "")
	}
}

func (d *drawer) set(deep int) {
	d.put(api.NodeSet, 2, "")
	switch d.Intn(4) {
	case 0:
		d.put(api.NodeField, 1, "len")
		d.expression(deep - 1)
	case 1:
		d.put(api.NodeIndex, 2, "")
		d.expression(deep - 1)
		d.expression(deep - 1)
	default:
		d.put(api.NodeName, 0, d.name())
	}
	d.expression(deep - 1)
}

func (d *drawer) choice(deep int) {
	n := 2 + d.Intn(2)
	d.put(api.NodeIf, n, "")
	d.expression(deep - 1)
	d.block(deep)
	if n == 3 && d.Intn(2) == 0 {
		d.choice(deep - 1)
	} else if n == 3 {
		d.block(deep)
	}
}

func (d *drawer) expression(deep int) {
	if deep <= 0 || d.Intn(3) == 0 {
		d.put(api.NodeName, 0, d.used())
		return
	}
	switch d.Intn(6) {
	case 0:
		d.put(api.NodeBin, 2, "+")
		d.expression(deep - 1)
		d.expression(deep - 1)
	case 1:
		d.put(api.NodeRec, 1, "")
		d.put(api.NodeKey, 1, d.used())
		d.expression(deep - 1)
	case 2:
		d.put(api.NodeField, 1, d.used())
		d.expression(deep - 1)
	case 3:
		d.put(api.NodeStr, 0, d.used())
	default:
		d.function(api.NodeLambda, "", deep)
	}
}

// program: with a seed of globals ahead or behind, so that many names mean something.
func (d *drawer) program(deep int) []api.Node {
	d.l = nil
	d.names = 4 + d.Intn(8)
	d.put(api.NodeProg, 0, "")
	n := 1 + d.Intn(4)
	for range n {
		d.statement(deep)
	}
	if d.Intn(4) > 0 {
		n += d.globals()
	}
	d.l[0].N = n
	return d.l
}

// globals declares those names behind all that are no globals yet.
func (d *drawer) globals() (n int) {
	m := newModel(withCount(d.l))
	for i := range d.names {
		text := string("abcdefghijkl"[i])
		if !slices.ContainsFunc(m.parts(0), func(at int) bool { return m.isGlobal(at) && d.l[at].Text == text }) {
			d.put(api.NodeVar, 1, text)
			d.put(api.NodeNil, 0, "")
			n++
		}
	}
	return n
}

// withCount is a list of statements behind a Prog, which is told how many there are.
func withCount(l []api.Node) []api.Node {
	l = slices.Clone(l)
	l[0].N = 0
	for at := 1; at < len(l); l[0].N++ {
		at, _ = parse.Behind(l, at)
	}
	return l
}

// sameScope: nil and empty lists are alike.
func sameScope(x, y api.Scope) bool {
	sameFun := func(f, g api.Fun) bool {
		caps := slices.Equal(f.Caps, g.Caps)
		f.Caps, g.Caps = nil, nil
		return caps && reflect.DeepEqual(f, g)
	}
	return slices.EqualFunc(x.Funs, y.Funs, sameFun) && slices.Equal(x.Uses, y.Uses) && slices.Equal(x.Globals, y.Globals)
}

// P8.2 to P8.5: programs that are drawn, held against the model.
func TestDrawn(t *testing.T) {
	d := &drawer{Rand: rand.New(rand.NewSource(81))}
	seen := map[api.Errno]int{}
	where := map[int]int{}
	between := 0
	for i := range 30000 {
		d.wild = i%2 == 1
		l := d.program(1 + i%8)
		if _, e := parse.Check(l); e != api.OK {
			t.Fatalf("%v: %d", l, e)
		}
		m := newModel(l)
		s, e, at := Resolve(l)
		seen[e]++
		if want, place := m.fault(); e != want || at != place || e != api.OK && !isZero(s) {
			t.Fatalf("%v: %d at %d, not %d at %d", l, e, at, want, place)
		}
		if e != api.OK {
			continue
		}
		if want := m.scope(); !sameScope(s, want) {
			t.Fatalf("%v:\n%v, not\n%v", l, s, want)
		}
		for _, u := range s.Uses {
			where[u.Where]++
		}
		for _, f := range s.Funs {
			between += len(slices.DeleteFunc(f.Caps, func(c api.Cap) bool { return c.Own == 1 }))
		}
	}
	for _, e := range []api.Errno{api.OK, api.ErrNone, api.ErrTwice, api.ErrKind, api.ErrForm} {
		if seen[e] < 500 {
			t.Errorf("%d: only %d", e, seen[e])
		}
	}
	for u := api.UseNone; u <= api.UsePrim; u++ {
		if where[u] < 1000 {
			t.Errorf("use %d: only %d", u, where[u])
		}
	}
	if between < 500 {
		t.Errorf("only %d taken from what is taken", between)
	}
}

// P8.6: each declaration with a name of its own, unlike all others, and the Names that mean it with it.
func TestOtherNames(t *testing.T) {
	d := &drawer{Rand: rand.New(rand.NewSource(86))}
	taken := 0
	for i := range 10000 {
		l := slices.Clone(d.program(1 + i%6))
		s, e, _ := Resolve(l)
		if e != api.OK {
			continue
		}
		taken++
		m := newModel(l)
		other := slices.Clone(l)
		var globals []string
		for i := range l {
			if _, is := m.declared(i); is || m.isGlobal(i) {
				other[i].Text = "other" + strconv.Itoa(len(l)-i)
			}
			if m.isGlobal(i) {
				globals = append(globals, other[i].Text)
			}
		}
		for i := range l {
			if m.isUse(i) && m.means(i) >= 0 {
				other[i].Text = other[m.means(i)].Text
			}
		}
		s.Globals = globals
		if got, e, _ := Resolve(other); e != api.OK || !sameScope(got, s) {
			t.Fatalf("%v: %d\n%v, not\n%v", l, e, got, s)
		}
	}
	if taken < 2000 {
		t.Error(taken)
	}
}

// P8.6: names changed for one another all over the program.
func TestNamesChanged(t *testing.T) {
	d := &drawer{Rand: rand.New(rand.NewSource(87))}
	for i := range 10000 {
		d.wild = i%2 == 1
		l := slices.Clone(d.program(1 + i%6))
		order := d.Perm(12)
		change := func(text string) string {
			if len(text) != 1 {
				return text
			}
			return string("lkjihgfedcba"[order[text[0]-'a']])
		}
		other := slices.Clone(l)
		for i := range other {
			if other[i].Kind != api.NodeBin {
				other[i].Text = change(other[i].Text)
			}
		}
		s, e, at := Resolve(l)
		for i := range s.Globals {
			s.Globals[i] = change(s.Globals[i])
		}
		if got, e2, at2 := Resolve(other); e2 != e || at2 != at || !sameScope(got, s) {
			t.Fatalf("%v: %d at %d, %d at %d", l, e, at, e2, at2)
		}
	}
}

// P8.5: fields that are not named, and At, play no part in what names mean; the fault's At is told as it is.
func TestOtherFields(t *testing.T) {
	d := &drawer{Rand: rand.New(rand.NewSource(88)), wild: true}
	for i := range 10000 {
		l := slices.Clone(d.program(1 + i%6))
		s, e, at := Resolve(l)
		other := slices.Clone(l)
		place := 0
		for i := range other {
			other[i].At = []int{-1, math.MaxInt, math.MinInt, i}[d.Intn(4)]
			if e != api.OK && l[i].At == at {
				place = other[i].At
			}
			switch other[i].Kind {
			case api.NodeProg, api.NodeBlock, api.NodeSet, api.NodeIf, api.NodeWhile, api.NodeLambda, api.NodeReturn:
				other[i].Text = []string{"a", "print", "if", "\x00"}[d.Intn(4)]
			}
			if k := other[i].Kind; k != api.NodeFn && k != api.NodeLambda {
				other[i].Num = []int{-1, math.MaxInt, math.MinInt, i}[d.Intn(4)]
			}
		}
		if got, e2, at2 := Resolve(other); e2 != e || at2 != place || !sameScope(got, s) {
			t.Fatalf("%v: %d at %d, %d at %d", other, e, place, e2, at2)
		}
	}
}

// P8.5: programs with something wrong in them: parse.Check's error, with place 0.
func TestMutated(t *testing.T) {
	d := &drawer{Rand: rand.New(rand.NewSource(89))}
	seen := map[api.Errno]int{}
	for i := range 20000 {
		l := d.mutated(slices.Clone(d.program(1 + i%5)))
		_, want := parse.Check(l)
		seen[want]++
		if want != api.OK {
			wantFaultOf(t, l, "mutated", want, 0)
		} else if want, place := newModel(l).fault(); want != api.OK {
			wantFaultOf(t, l, "mutated", want, place)
		}
		if t.Failed() {
			t.FailNow()
		}
	}
	if seen[api.OK] < 500 || seen[api.ErrKind] < 500 || seen[api.ErrArg] < 500 || seen[api.ErrForm] < 500 {
		t.Error(seen)
	}
}

func (d *drawer) mutated(l []api.Node) []api.Node {
	i := d.Intn(len(l))
	switch d.Intn(7) {
	case 0:
		l[i].Kind = d.Intn(35) - 1
	case 1:
		l[i].N += d.Intn(5) - 2
	case 2:
		l[i].Num += d.Intn(5) - 2
	case 3:
		l[i].Text = []string{"", "if", "q", "print", "1"}[d.Intn(5)]
	case 4:
		l = slices.Delete(l, i, i+1)
	case 5:
		l = slices.Insert(l, i, l[d.Intn(len(l))])
	case 6:
		l = l[:i]
	}
	return l
}

// nested: a program of some nodes, n times, each time about the next, and a middle.
func nested(n int, begin, middle []api.Node) []api.Node {
	l := []api.Node{{Kind: api.NodeProg, N: 1}}
	l = append(l, slices.Repeat(begin, n)...)
	return append(l, middle...)
}

// Ends: as much nested as the document allows for, of each thing that nests.
func TestDeep(t *testing.T) {
	const deep = 1 << 16
	x := api.Node{Kind: api.NodeName, Text: "self"}
	nothing := api.Node{Kind: api.NodeBlock}
	for _, c := range []struct {
		kind          string
		begin, middle []api.Node
	}{
		{"Block", []api.Node{{Kind: api.NodeBlock, N: 1}}, []api.Node{nothing}},
		{"If", []api.Node{{Kind: api.NodeIf, N: 3}, x, nothing}, []api.Node{nothing}},
		{"While", []api.Node{{Kind: api.NodeWhile, N: 2}, x, {Kind: api.NodeBlock, N: 1}}, []api.Node{{Kind: api.NodeBreak}}},
		{"Not", nil, append(append([]api.Node{{Kind: api.NodeExpr, N: 1}}, slices.Repeat([]api.Node{{Kind: api.NodeNot, N: 1}}, deep)...), x)},
		{"Bin", nil, append(append([]api.Node{{Kind: api.NodeExpr, N: 1}}, slices.Repeat([]api.Node{{Kind: api.NodeBin, N: 2, Text: "+"}}, deep)...), slices.Repeat([]api.Node{x}, deep+1)...)},
	} {
		l := nested(deep, c.begin, c.middle)
		if s, e, _ := Resolve(l); e != api.OK || len(s.Funs) != 1 || len(s.Uses) != len(l) {
			t.Errorf("%s: %d", c.kind, e)
		}
	}
	tries := nested(deep, []api.Node{{Kind: api.NodeTry, N: 2, Text: "e"}, nothing, {Kind: api.NodeBlock, N: 1}}, []api.Node{nothing})
	wantFaultOf(t, tries, "Tries", api.ErrMany, 0)
	funs := nested(deep, []api.Node{{Kind: api.NodeFn, N: 1, Text: "f"}, {Kind: api.NodeBlock, N: 1}}, []api.Node{nothing})
	wantFaultOf(t, funs, "Fns", api.ErrMany, 0)
}

// Ends: many Names, deep within Blocks, that mean what is far outside.
func TestManyNamesDeep(t *testing.T) {
	const deep, many = 1 << 15, 1 << 17
	middle := []api.Node{{Kind: api.NodeExpr, N: 1}, {Kind: api.NodeList, N: many}}
	for range many {
		middle = append(middle, api.Node{Kind: api.NodeName, Text: "a"})
	}
	begin := append([]api.Node{{Kind: api.NodeBlock, N: 2}, {Kind: api.NodeVar, N: 1, Text: "a"}, {Kind: api.NodeNil}}, slices.Repeat([]api.Node{{Kind: api.NodeBlock, N: 1}}, deep)...)
	l := append(append([]api.Node{{Kind: api.NodeProg, N: 1}}, begin...), middle...)
	s := resolved(t, l)
	if s.Uses[len(l)-1] != (api.Use{Where: api.UseSlot}) || s.Funs[0].Slots != 1 {
		t.Error(s.Uses[len(l)-1], s.Funs)
	}
}

// P8.5: functions within one another, as many as there may be: the innermost takes what the outermost declares.
func TestDeepestTaken(t *testing.T) {
	lambda := []api.Node{{Kind: api.NodeExpr, N: 1}, {Kind: api.NodeLambda, N: 1}, {Kind: api.NodeBlock, N: 1}}
	l := []api.Node{{Kind: api.NodeProg, N: 1}, {Kind: api.NodeBlock, N: 2}, {Kind: api.NodeVar, N: 1, Text: "a"}, {Kind: api.NodeNil}}
	for range api.MaxFuns - 1 {
		l = append(l, lambda...)
	}
	l = append(l, api.Node{Kind: api.NodeExpr, N: 1}, api.Node{Kind: api.NodeName, Text: "a"})
	s := resolved(t, l)
	for i, f := range s.Funs[1:] {
		want := api.Cap{Own: 0, N: 0}
		if i == 0 {
			want = api.Cap{Own: 1, N: 0}
		}
		if !slices.Equal(f.Caps, []api.Cap{want}) {
			t.Errorf("%d: %v", i, f)
		}
	}
	if s.Uses[2] != (api.Use{Where: api.UseCell}) || s.Uses[len(l)-1] != (api.Use{Where: api.UseCap}) {
		t.Error(s.Uses[2], s.Uses[len(l)-1])
	}
}
