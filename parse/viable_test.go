package parse

import (
	"math/rand"
	"slices"
	"strings"
	"testing"

	"jacquard/api"
	"jacquard/lex"
)

// The model of what may stand where: a grammar, and all ways through it followed at once (Earley's). A ' marks what does not begin with a {.
const plainRules = `
Prog = Stmts
Stmts = | Stmts Stmt
Block = { Stmts }
Stmt = Block | var name = E ; | T' = E ; | If | while E Block | break ; | continue ; | return ; | return E ; | throw E ;
Stmt = try Block catch name Block | fn name ( Names ) Block | E' ;
If = if E Block | if E Block else Block | if E Block else If
Names = | Names1
Names1 = name | Names1 , name
Es = | Es1
Es1 = E | Es1 , E
Keys = | Keys1
Keys1 = name : E | Keys1 , name : E
Single = { Keys }`

const markedRules = `
T? = name | Behind? [ E ] | Behind? . name | ( T )
E? = Both? | E? or Both
Both? = Not? | Both? and Not
Not? = not Not | Compared?
Compared? = Sum? | Sum? == Sum | Sum? != Sum | Sum? < Sum | Sum? <= Sum | Sum? > Sum | Sum? >= Sum
Sum? = Product? | Sum? + Product | Sum? - Product
Product? = Neg? | Product? * Neg | Product? / Neg | Product? % Neg
Neg? = - Neg | spawn Behind ( Es ) | Behind?
Behind? = Single? | Behind? ( Es ) | Behind? [ E ] | Behind? . name
Single? = int | str | true | false | nil | name | [ Es ] | ( E ) | fn ( Names ) Block`

type rule struct {
	left  string
	right []string
}

// item is a rule of which some symbols have come, from a token on.
type item struct{ rule, come, from int }

type grammar struct {
	rules []rule
	of    map[string][]int
	empty map[string]int // 1: may be nothing
}

func newGrammar() *grammar {
	g := &grammar{of: map[string][]int{}, empty: map[string]int{}}
	text := plainRules + strings.ReplaceAll(markedRules, "?", "") + strings.ReplaceAll(markedRules, "?", "'")
	for _, line := range strings.Split(strings.TrimSpace(text), "\n") {
		left, right, _ := strings.Cut(line, " = ")
		for _, way := range strings.Split(right, "|") {
			g.of[left] = append(g.of[left], len(g.rules))
			g.rules = append(g.rules, rule{left, strings.Fields(way)})
			if strings.TrimSpace(way) == "" {
				g.empty[left] = 1
			}
		}
	}
	return g
}

// walk is how far a text has come: of each place between tokens all items that hold there.
type walk struct {
	g    *grammar
	sets [][]item
}

func (g *grammar) begin() walk {
	return walk{g: g}.with([]item{{rule: g.of["Prog"][0]}})
}

// with adds a place, and all that follows of its items.
func (k walk) with(set []item) walk {
	known := map[item]int{}
	var all []item
	here := len(k.sets)
	add := func(x item) {
		if _, ok := known[x]; !ok {
			known[x] = 1
			all = append(all, x)
		}
	}
	for _, x := range set {
		add(x)
	}
	for i := 0; i < len(all); i++ {
		x := all[i]
		r := k.g.rules[x.rule]
		if x.come == len(r.right) {
			about := all
			if x.from < here {
				about = k.sets[x.from]
			}
			for _, y := range slices.Clone(about) {
				if q := k.g.rules[y.rule].right; y.come < len(q) && q[y.come] == r.left {
					add(item{y.rule, y.come + 1, y.from})
				}
			}
			continue
		}
		next := r.right[x.come]
		for _, n := range k.g.of[next] {
			add(item{n, 0, here})
		}
		if k.g.empty[next] == 1 {
			add(item{x.rule, x.come + 1, x.from})
		}
	}
	return walk{g: k.g, sets: append(slices.Clip(k.sets), all)}
}

// step goes over a token; false: no program has it there.
func (k walk) step(symbol string) (walk, bool) {
	var set []item
	for _, x := range k.sets[len(k.sets)-1] {
		if q := k.g.rules[x.rule].right; x.come < len(q) && q[x.come] == symbol {
			set = append(set, item{x.rule, x.come + 1, x.from})
		}
	}
	if set == nil {
		return walk{}, false
	}
	return k.with(set), true
}

// whole: is it a program as far as it has come?
func (k walk) whole() bool {
	first := k.g.of["Prog"][0]
	return slices.Contains(k.sets[len(k.sets)-1], item{first, len(k.g.rules[first].right), 0})
}

func symbol(t api.Token) string {
	switch t.Kind {
	case api.TokName:
		return "name"
	case api.TokInt:
		return "int"
	case api.TokStr:
		return "str"
	}
	return t.Text
}

// alphabet has each token once, and those of a text by their symbols.
var alphabet = strings.Fields(`a 1 "s" var fn if else while break continue return throw try catch spawn true false nil and or not == != <= >= + - * / % < > = ( ) [ ] { } , ; : .`)

func symbolOf(token string) string {
	switch token {
	case "a":
		return "name"
	case "1":
		return "int"
	case `"s"`:
		return "str"
	}
	return token
}

// wantAhead: a text that some program begins with is one, or too short.
func wantAhead(t *testing.T, text string, k walk) {
	t.Helper()
	l, e, at := Parse([]byte(text))
	if k.whole() && (e != api.OK || at != len(text) || len(l) == 0) || !k.whole() && (e != api.ErrForm || at != len(text) || len(l) != 0) {
		t.Fatalf("%q: %d at %d, a program: %v", text, e, at, k.whole())
	}
}

// tryAll puts each token behind a text, and tells those that may stand there.
func tryAll(t *testing.T, text string, k walk) (tokens []string, walks []walk) {
	t.Helper()
	for _, token := range alphabet {
		next, ok := k.step(symbolOf(token))
		longer := text + " " + token
		if !ok {
			if l, e, at := Parse([]byte(longer)); e != api.ErrForm || at != len(text)+1 || len(l) != 0 {
				t.Fatalf("%q: %d at %d", longer, e, at)
			}
			continue
		}
		wantAhead(t, longer, next)
		tokens, walks = append(tokens, token), append(walks, next)
	}
	return tokens, walks
}

// P6.4: every short text, token by token.
func TestEveryShortProgram(t *testing.T) {
	var into func(text string, k walk, more int)
	into = func(text string, k walk, more int) {
		tokens, walks := tryAll(t, text, k)
		if more == 0 {
			return
		}
		for i, token := range tokens {
			into(text+" "+token, walks[i], more-1)
		}
	}
	begin := newGrammar().begin()
	wantAhead(t, "", begin)
	into("", begin, 3)
}

// P6.4: longer texts, a token that may stand there drawn behind the others, all tried each time.
func TestDrawnTokens(t *testing.T) {
	draw := rand.New(rand.NewSource(4))
	g := newGrammar()
	for range 120 {
		text, k := "", g.begin()
		for range 30 {
			tokens, walks := tryAll(t, text, k)
			i := draw.Intn(len(tokens))
			text, k = text+" "+tokens[i], walks[i]
		}
	}
}

// firstFault is the place of the first token that no program has there, or the end; OK: there is none.
func firstFault(t *testing.T, g *grammar, text []byte) (api.Errno, int) {
	t.Helper()
	l, e, at := lex.Lex(text)
	if e != api.OK {
		t.Fatalf("%q: %d at %d", text, e, at)
	}
	k := g.begin()
	for _, token := range l[:len(l)-1] {
		var ok bool
		if k, ok = k.step(symbol(token)); !ok {
			return api.ErrForm, token.At
		}
	}
	if !k.whole() {
		return api.ErrForm, len(text)
	}
	return api.OK, len(text)
}

// P6.4: programs that are drawn, with a token too many, too few, or another one.
func TestDrawnFaults(t *testing.T) {
	draw := rand.New(rand.NewSource(46))
	g := newGrammar()
	seen := map[api.Errno]int{}
	for seen[api.OK]+seen[api.ErrForm] < 3000 {
		w := written(draw, drawProgram(draw, 1+draw.Intn(4)))
		if w.beyond >= 0 || len(w.text) > 400 || len(w.text) == 0 {
			continue
		}
		l, _, _ := lex.Lex(w.text)
		i := draw.Intn(len(l) - 1)
		from, to := l[i].At, l[i+1].At
		more := " " + alphabet[draw.Intn(len(alphabet))] + " "
		switch draw.Intn(4) {
		case 0:
			to = from
		case 1:
			more = " "
		case 2:
			j := draw.Intn(len(l) - 1)
			more = " " + string(w.text[l[j].At:l[j+1].At]) + " "
		}
		text := slices.Concat(w.text[:from], []byte(more), w.text[to:])
		e, at := firstFault(t, g, text)
		got, gotE, gotAt := Parse(text)
		if gotE != e || gotAt != at || e != api.OK && len(got) != 0 {
			t.Fatalf("%q: %d at %d, not %d at %d", text, gotE, gotAt, e, at)
		}
		if e == api.OK {
			wantPlaces(t, text, got)
		}
		seen[e]++
	}
	if seen[api.OK] < 100 || seen[api.ErrForm] < 100 {
		t.Error(seen)
	}
}
