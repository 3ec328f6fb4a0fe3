package parse

import (
	"math"
	"math/rand"
	"slices"
	"strings"
	"testing"

	"jacquard/api"
)

func wantCheck(t *testing.T, l []api.Node, at int, e api.Errno) {
	t.Helper()
	if gotAt, gotE := Check(l); gotAt != at || gotE != e {
		t.Errorf("%.500v: %d at %d, not %d at %d", l, gotE, gotAt, e, at)
	}
}

// Short forms of nodes.
func node(kind, n int) api.Node               { return api.Node{Kind: kind, N: n} }
func named(kind, n int, text string) api.Node { return api.Node{Kind: kind, N: n, Text: text} }
func fun(kind, n, num int, text string) api.Node {
	return api.Node{Kind: kind, N: n, Num: num, Text: text}
}
func list(nodes ...api.Node) []api.Node           { return nodes }
func lists(pieces ...[]api.Node) (out []api.Node) { return slices.Concat(pieces...) }

// parsed is of a text without a fault.
func parsed(t *testing.T, text string) []api.Node {
	t.Helper()
	l, e, at := Parse([]byte(text))
	if e != api.OK {
		t.Fatalf("%q: %d at %d", text, e, at)
	}
	return l
}

// The model: what each kind is made of, letter by letter: s statement, e expression, k Key, n Name, b Block, c Block or If, t target; + any number of the one ahead.
var (
	modelForms = map[int][]string{
		1: {"s+"}, 2: {"s+"}, 3: {"e"}, 4: {"te"}, 5: {"eb", "ebc"}, 6: {"eb"}, 7: {""}, 8: {""}, 9: {"", "e"}, 10: {"e"}, 11: {"bb"}, 12: {"n+b"}, 13: {"e"},
		14: {""}, 15: {""}, 16: {""}, 17: {""}, 18: {""}, 19: {""}, 20: {"e+"}, 21: {"k+"}, 22: {"e"}, 23: {"ee"}, 24: {"ee"}, 25: {"ee"}, 26: {"e"}, 27: {"e"}, 28: {"ee+"}, 29: {"ee"}, 30: {"e"}, 31: {"n+b"}, 32: {"ee+"},
	}
	modelKinds = map[byte][]int{
		'p': {1}, 's': {2, 3, 4, 5, 6, 7, 8, 9, 10, 11, 12, 13}, 'e': {14, 15, 16, 17, 18, 19, 20, 21, 23, 24, 25, 26, 27, 28, 29, 30, 31, 32},
		'k': {22}, 'n': {19}, 'b': {2}, 'c': {2, 5}, 't': {19, 29, 30},
	}
	modelSigns = strings.Fields("+ - * / % == != < <= > >=")
	modelWords = strings.Fields("var fn if else while break continue return throw try catch spawn true false nil and or not")
)

func modelName(s string) bool {
	for i, c := range []byte(s) {
		letter := c == '_' || 'a' <= c|0x20 && c|0x20 <= 'z'
		if !letter && (i == 0 || c < '0' || c > '9') {
			return false
		}
	}
	return s != "" && !slices.Contains(modelWords, s)
}

// modelParts is what a node's parts are to be, one letter each; false: there is none with so many.
func modelParts(n api.Node) (string, bool) {
	for _, form := range modelForms[n.Kind] {
		if i := strings.Index(form, "+"); i >= 0 {
			fixed := len(form) - 2
			if n.N < fixed {
				continue
			}
			return form[:i-1] + strings.Repeat(form[i-1:i], min(n.N-fixed, 1000)) + form[i+1:], true
		}
		if len(form) == n.N {
			return form, true
		}
	}
	return "", false
}

func modelFields(n api.Node) bool {
	switch n.Kind {
	case 3, 11, 19, 22, 30:
		return modelName(n.Text)
	case 14:
		return 0 <= n.Num && n.Num <= 2305843009213693951
	case 12:
		return modelName(n.Text) && 0 <= n.Num && n.Num <= 16 && n.Num+1 == n.N
	case 31:
		return 0 <= n.Num && n.Num <= 16 && n.Num+1 == n.N
	case 23:
		return slices.Contains(modelSigns, n.Text)
	case 28, 32:
		return n.N <= 17
	}
	return true
}

// modelCheck goes into one node, and tells the place behind it, or a fault.
func modelCheck(l []api.Node, at int, asked byte) (int, api.Errno) {
	if at == len(l) {
		return at, api.ErrForm
	}
	if !slices.Contains(modelKinds[asked], l[at].Kind) {
		return at, api.ErrKind
	}
	parts, ok := modelParts(l[at])
	if !ok || !modelFields(l[at]) {
		return at, api.ErrArg
	}
	at++
	for i := range len(parts) {
		var e api.Errno
		if at, e = modelCheck(l, at, parts[i]); e != api.OK {
			return at, e
		}
	}
	return at, api.OK
}

func modelProgram(l []api.Node) (int, api.Errno) {
	end, e := modelCheck(l, 0, 'p')
	if e == api.OK && end < len(l) {
		return end, api.ErrForm
	}
	if e == api.OK {
		return 0, api.OK
	}
	return end, e
}

// P6.6: nothing, the beginning, the end.
func TestCheckEnds(t *testing.T) {
	wantCheck(t, nil, 0, api.ErrForm)
	wantCheck(t, list(), 0, api.ErrForm)
	wantCheck(t, list(node(1, 0)), 0, api.OK)
	wantCheck(t, list(node(1, 1)), 1, api.ErrForm)
	wantCheck(t, list(node(1, math.MaxInt)), 1, api.ErrForm)
	wantCheck(t, list(node(1, math.MaxInt), node(7, 0)), 2, api.ErrForm)
	wantCheck(t, list(node(1, -1)), 0, api.ErrArg)
	wantCheck(t, list(node(1, math.MinInt)), 0, api.ErrArg)
	wantCheck(t, list(node(1, 0), node(7, 0)), 1, api.ErrForm)
	wantCheck(t, list(node(1, 0), node(1, 0)), 1, api.ErrForm)
	wantCheck(t, list(node(1, 0), node(0, -1)), 1, api.ErrForm)
	wantCheck(t, list(node(1, 1), node(7, 0), node(99, 0), node(7, 0)), 2, api.ErrForm)
	wantCheck(t, list(node(1, 1), node(1, 0)), 1, api.ErrKind)
	wantCheck(t, list(node(1, 1), node(2, 1), node(1, 0)), 2, api.ErrKind)
	wantCheck(t, list(node(2, 0)), 0, api.ErrKind)
	wantCheck(t, list(node(0, 0)), 0, api.ErrKind)
	for _, kind := range []int{-1, 0, 33, 34, math.MaxInt, math.MinInt} {
		wantCheck(t, list(node(kind, -1)), 0, api.ErrKind)
		wantCheck(t, list(node(1, 1), node(kind, -1)), 1, api.ErrKind)
		wantCheck(t, list(node(1, 1), node(13, 1), node(kind, -1)), 2, api.ErrKind)
		wantCheck(t, list(node(1, 1), node(13, 1), node(21, 1), node(kind, -1)), 3, api.ErrKind)
	}
}

// P6.6: every list of few nodes, of each kind, held against the model.
func TestCheckShort(t *testing.T) {
	var all []api.Node
	for kind := range 35 {
		for n := -1; n <= 3; n++ {
			all = append(all, api.Node{Kind: kind, N: n, Text: "a", Num: max(n-1, 0)})
			if kind == api.NodeBin {
				all[len(all)-1].Text = "<="
			}
		}
	}
	for _, a := range all {
		wantAsModel(t, list(a))
		for _, b := range all {
			wantAsModel(t, list(node(1, 1), a, b))
			wantAsModel(t, list(node(1, 1), node(13, 1), a, b))
			if a.N < 1 {
				continue
			}
			for _, c := range all {
				if b.N <= 0 || c.N <= 0 {
					wantAsModel(t, list(node(1, 1), node(2, 1), a, b, c))
					wantAsModel(t, list(node(1, 2), node(9, 1), a, b, c))
				}
			}
		}
	}
}

func wantAsModel(t *testing.T, l []api.Node) {
	t.Helper()
	at, e := modelProgram(l)
	if gotAt, gotE := Check(l); gotAt != at || gotE != e {
		t.Fatalf("%v: %d at %d, not %d at %d", l, gotE, gotAt, e, at)
	}
}

// P6.6: N, of each kind, with all else as it should be.
func TestCheckN(t *testing.T) {
	for kind := 2; kind <= 32; kind++ {
		for _, n := range []int{math.MinInt, -2, -1, 0, 1, 2, 3, 4, 16, 17, 18, 255, 256, math.MaxInt} {
			text := "a"
			if kind == api.NodeBin {
				text = "+"
			}
			l := list(node(1, 1), node(13, 1), fun(kind, n, n-1, text))
			if kind <= 13 {
				l = list(node(1, 1), fun(kind, n, n-1, text))
			} else if kind == api.NodeKey {
				l = list(node(1, 1), node(13, 1), node(21, 1), fun(kind, n, n-1, text))
			}
			if kind == api.NodeInt {
				l[len(l)-1].Num = 1
			}
			wantAsModel(t, l)
			_, ok := modelParts(l[len(l)-1])
			if kind == 12 || kind == 28 || kind == 31 || kind == 32 {
				ok = n >= 1 && n <= 17
			}
			if !ok {
				wantCheck(t, l, len(l)-1, api.ErrArg)
			} else if n > 0 {
				wantCheck(t, l, len(l), api.ErrForm)
			} else {
				wantCheck(t, l, 0, api.OK)
			}
		}
	}
}

// P6.6: names, signs, numbers.
func TestCheckFields(t *testing.T) {
	fits := map[int][]api.Node{
		api.NodeVar:   list(named(3, 1, "?"), node(18, 0)),
		api.NodeTry:   list(named(11, 2, "?"), node(2, 0), node(2, 0)),
		api.NodeFn:    list(fun(12, 1, 0, "?"), node(2, 0)),
		api.NodeName:  list(node(13, 1), named(19, 0, "?")),
		api.NodeKey:   list(node(13, 1), node(21, 1), named(22, 1, "?"), node(18, 0)),
		api.NodeField: list(node(13, 1), named(30, 1, "?"), node(18, 0)),
		api.NodeBin:   list(node(13, 1), named(23, 2, "?"), node(18, 0), node(18, 0)),
	}
	texts := append(slices.Clone(modelWords), "", "a", "_", "Z9_", "print", "0", "9a", "a b", " a", "a ", "a\n", "\xc3\xa4", "a-b", "\x00", strings.Repeat("a", 70000), "+", "-", "*", "/", "%", "==", "!=", "<", "<=", ">", ">=", "=", "!", "(", "++", "=<", "&", "<>", "**", " +", "+ ")
	for kind, rest := range fits {
		for _, text := range texts {
			l := lists(list(node(1, 1)), rest)
			at := slices.IndexFunc(l, func(n api.Node) bool { return n.Text == "?" })
			l[at].Text = text
			if fine := modelName(text) && kind != api.NodeBin || kind == api.NodeBin && slices.Contains(modelSigns, text); fine {
				wantCheck(t, l, 0, api.OK)
			} else {
				wantCheck(t, l, at, api.ErrArg)
			}
		}
	}
	for _, num := range []int{math.MinInt, api.MinInt, -1, 0, 1, api.MaxInt, api.MaxInt + 1, math.MaxInt} {
		l := list(node(1, 1), node(13, 1), api.Node{Kind: api.NodeInt, Num: num})
		if num >= 0 && num <= api.MaxInt {
			wantCheck(t, l, 0, api.OK)
		} else {
			wantCheck(t, l, 2, api.ErrArg)
		}
	}
	for _, kind := range []int{api.NodeFn, api.NodeLambda} {
		for n := -1; n <= 19; n++ {
			for num := -2; num <= 19; num++ {
				l := list(node(1, 1), fun(kind, n, num, "f"))
				if kind == api.NodeLambda {
					l = list(node(1, 1), node(13, 1), fun(kind, n, num, ""))
				}
				at := len(l) - 1
				for range n - 1 {
					l = append(l, named(19, 0, "p"))
				}
				l = append(l, node(2, 0))
				if num >= 0 && num <= 16 && num == n-1 {
					wantCheck(t, l, 0, api.OK)
				} else {
					wantCheck(t, l, at, api.ErrArg)
				}
			}
		}
		for _, num := range []int{math.MinInt, math.MaxInt} {
			l := list(node(1, 1), node(13, 1), fun(kind, math.MinInt, num, "f"))
			if kind == api.NodeFn {
				l = slices.Delete(l, 1, 2)
			}
			wantCheck(t, l, len(l)-1, api.ErrArg)
		}
	}
}

// P6.6: the first node that has a fault; of one node, its kind.
func TestCheckFirst(t *testing.T) {
	l := parsed(t, "var a = 1 + f(2); if a { b.c = [1]; } else { return; }")
	for i := range l {
		for j := i; j < len(l); j++ {
			bad := slices.Clone(l)
			bad[j].Kind = 40
			bad[i].Kind = 0
			wantCheck(t, bad, i, api.ErrKind)
			bad = slices.Clone(l)
			bad[j].Kind = 33
			bad[i].N = -7
			if i < j {
				wantCheck(t, bad, i, api.ErrArg)
			} else {
				wantCheck(t, bad, i, api.ErrKind)
			}
		}
		wantCheck(t, l[:i], i, api.ErrForm)
		wantCheck(t, append(slices.Clone(l), l[i]), len(l), api.ErrForm)
	}
	wantCheck(t, list(node(1, 1), node(13, 1), node(27, 5), node(99, 0)), 2, api.ErrArg)
	wantCheck(t, list(node(1, 1), node(4, 2), node(14, 0), node(99, 0)), 2, api.ErrKind)
	wantCheck(t, list(node(1, 1), node(4, 7), node(14, 0), node(99, 0)), 1, api.ErrArg)
}

// P6.6: fields that are not named, and At, play no part.
func TestCheckOtherFields(t *testing.T) {
	l := parsed(t, "fn f(a) { while not a { a = -a; break; continue; } return {k: [true, false, nil, \"s\", 1]}; }\ntry { throw a[0].b or c and d; } catch e { spawn f(1); g(fn () {}); } if a {} else {} { return; }")
	wantCheck(t, l, 0, api.OK)
	for i := range l {
		l[i].At = []int{-1, math.MaxInt, math.MinInt, 3}[i%4]
		switch l[i].Kind {
		case api.NodeVar, api.NodeTry, api.NodeFn, api.NodeStr, api.NodeName, api.NodeKey, api.NodeBin, api.NodeField:
		default:
			l[i].Text = []string{"", "if", "x", "\x00"}[i%4]
		}
		switch l[i].Kind {
		case api.NodeInt, api.NodeFn, api.NodeLambda:
		default:
			l[i].Num = []int{-1, math.MaxInt, math.MinInt, 3}[i%4]
		}
	}
	same := slices.Clone(l)
	wantCheck(t, l, 0, api.OK)
	if !slices.Equal(l, same) {
		t.Error("Check changed its argument")
	}
}

// P6.6: programs that are drawn, with something wrong in them.
func TestCheckMutated(t *testing.T) {
	draw := rand.New(rand.NewSource(66))
	seen := map[api.Errno]int{}
	for range 4000 {
		l := drawProgram(draw, 1+draw.Intn(5)).list()
		wantAsModel(t, l)
		for range 8 {
			bad := slices.Clone(l)
			for range 1 + draw.Intn(2) {
				bad = mutated(draw, bad)
			}
			wantAsModel(t, bad)
			_, e := Check(bad)
			seen[e]++
		}
	}
	if seen[api.OK] < 500 || seen[api.ErrKind] < 500 || seen[api.ErrArg] < 500 || seen[api.ErrForm] < 500 {
		t.Error(seen)
	}
}

func mutated(draw *rand.Rand, l []api.Node) []api.Node {
	if len(l) == 0 {
		return list(node(1, 0))
	}
	i := draw.Intn(len(l))
	switch draw.Intn(8) {
	case 0:
		l[i].Kind = draw.Intn(35) - 1
	case 1:
		l[i].N += draw.Intn(5) - 2
	case 2:
		l[i].Num += draw.Intn(5) - 2
	case 3:
		l[i].Text = []string{"", "if", "q", "+", "1"}[draw.Intn(5)]
	case 4:
		l = slices.Delete(l, i, i+1)
	case 5:
		l = slices.Insert(l, i, l[draw.Intn(len(l))])
	case 6:
		l = l[:i]
	case 7:
		j := draw.Intn(len(l))
		l[i], l[j] = l[j], l[i]
	}
	return l
}

// P6.6: nothing of what is nested deeply, or counted high, is too much.
func TestCheckDeep(t *testing.T) {
	l := list(node(1, 1), node(13, 1))
	for range 300000 {
		l = append(l, node(api.NodeNeg, 1))
	}
	wantCheck(t, l, len(l), api.ErrForm)
	if end, e := Behind(l, 0); end != 0 || e != api.ErrForm {
		t.Error(end, e)
	}
	l = append(l, node(api.NodeNil, 0))
	wantCheck(t, l, 0, api.OK)
	if end, e := Behind(l, 2); end != len(l) || e != api.OK {
		t.Error(end, e)
	}
	l = append(l, node(api.NodeNil, 0))
	wantCheck(t, l, len(l)-1, api.ErrForm)
}

// modelBehind counts from the end on: of each node the place behind it; -1: there is none.
func modelBehind(l []api.Node) []int {
	behind := make([]int, len(l)+1)
	behind[len(l)] = -1
	for i := len(l) - 1; i >= 0; i-- {
		at := i + 1
		for n := l[i].N; n > 0 && at >= 0; n-- {
			at = behind[at]
		}
		behind[i] = at
	}
	return behind[:len(l)]
}

// P6.5: by hand.
func TestBehind(t *testing.T) {
	l := parsed(t, "x = (1 + 2) * y; f();")
	for at, want := range []int{11, 8, 3, 8, 7, 6, 7, 8, 11, 11, 11} {
		if end, e := Behind(l, at); end != want || e != api.OK {
			t.Errorf("%d: %d, %d, not %d", at, end, e, want)
		}
	}
	for _, at := range []int{-1, len(l), len(l) + 1, math.MaxInt, math.MinInt} {
		if end, e := Behind(l, at); end != 0 || e != api.ErrArg {
			t.Errorf("%d: %d, %d", at, end, e)
		}
	}
	for _, at := range []int{-1, 0, 1} {
		if end, e := Behind(nil, at); end != 0 || e != api.ErrArg {
			t.Errorf("%d: %d, %d", at, end, e)
		}
	}
	for n, want := range map[int]int{math.MinInt: 1, -1: 1, 0: 1, 1: 2, 2: 3, 3: 0, 4: 0, math.MaxInt: 0, math.MaxInt - 1: 0} {
		e := api.OK
		if want == 0 {
			e = api.ErrForm
		}
		l := list(node(99, n), node(-5, -3), node(0, math.MinInt))
		if end, gotE := Behind(l, 0); end != want || gotE != e {
			t.Errorf("%d: %d, %d", n, end, gotE)
		}
	}
	l = list(node(1, math.MaxInt), node(1, math.MaxInt), node(1, math.MaxInt), node(1, 0))
	for at, want := range []int{0, 0, 0, 4} {
		if end, _ := Behind(l, at); end != want {
			t.Error(at, end)
		}
	}
}

// P6.5: lists that are drawn, and no programs.
func TestBehindDrawn(t *testing.T) {
	draw := rand.New(rand.NewSource(65))
	for range 20000 {
		l := make([]api.Node, draw.Intn(14))
		for i := range l {
			l[i] = node(draw.Intn(40)-3, draw.Intn(6)-2)
		}
		same := slices.Clone(l)
		for at, want := range modelBehind(l) {
			end, e := Behind(l, at)
			if want < 0 && (end != 0 || e != api.ErrForm) || want >= 0 && (end != want || e != api.OK) {
				t.Fatalf("%v, %d: %d, %d, not %d", l, at, end, e, want)
			}
		}
		if !slices.Equal(l, same) {
			t.Fatal("Behind changed its argument")
		}
	}
}
