package parse

import (
	"fmt"
	"slices"
	"strings"
	"testing"

	"jacquard/api"
)

var kindNames = strings.Fields("- Prog Block Var Set If While Break Continue Return Throw Try Fn Expr Int Str True False Nil Name List Rec Key Bin And Or Not Neg Call Index Field Lambda Spawn")

// told writes a list node by node: its kind, its fields that are not zero, and what it is made of in brackets.
func told(l []api.Node, places bool) string {
	var tell func() string
	i := 0
	tell = func() string {
		n := l[i]
		i++
		s := kindNames[n.Kind]
		if n.Text != "" {
			s += ":" + n.Text
		}
		if n.Num != 0 {
			s += fmt.Sprint("=", n.Num)
		}
		if places {
			s += fmt.Sprint("@", n.At)
		}
		if n.N == 0 {
			return s
		}
		var parts []string
		for range n.N {
			parts = append(parts, tell())
		}
		return s + "(" + strings.Join(parts, " ") + ")"
	}
	return tell()
}

func wantTree(t *testing.T, text, want string, places bool) {
	t.Helper()
	l, e, at := Parse([]byte(text))
	if e != api.OK || at != len(text) {
		t.Errorf("%q: %d at %d", text, e, at)
		return
	}
	if at, e := Check(l); at != 0 || e != api.OK {
		t.Errorf("%q: checked: %d at %d", text, e, at)
	}
	if got := told(l, places); got != want {
		t.Errorf("%q: %s, not %s", text, got, want)
	}
}

// wantExpr is of one expression: as a statement, within ( ), and behind a var.
func wantExpr(t *testing.T, text, want string) {
	t.Helper()
	wantTree(t, "("+text+");", "Prog(Expr("+want+"))", false)
	wantTree(t, "var x = "+text+";", "Prog(Var:x("+want+"))", false)
	wantTree(t, "return ((\n"+text+" ) );", "Prog(Return("+want+"))", false)
	wantTree(t, "if "+text+"{}", "Prog(If("+want+" Block))", false)
	wantTree(t, "a["+text+"]=["+text+","+text+"];", "Prog(Set(Index(Name:a "+want+") List("+want+" "+want+")))", false)
	if !strings.HasPrefix(text, "{") {
		wantTree(t, text+";", "Prog(Expr("+want+"))", false)
	}
}

// P6.1, P6.3: the chapter's examples, field by field.
func TestParseExample(t *testing.T) {
	l, e, at := Parse([]byte("x = 1 + 2 * y;"))
	want := []api.Node{
		{Kind: api.NodeProg, N: 1},
		{Kind: api.NodeSet, N: 2},
		{Kind: api.NodeName, Text: "x"},
		{Kind: api.NodeBin, N: 2, Text: "+", At: 4},
		{Kind: api.NodeInt, Num: 1, At: 4},
		{Kind: api.NodeBin, N: 2, Text: "*", At: 8},
		{Kind: api.NodeInt, Num: 2, At: 8},
		{Kind: api.NodeName, Text: "y", At: 12},
	}
	if e != api.OK || at != 14 || !slices.Equal(l, want) {
		t.Error(l, e, at)
	}
}

// P6.1: each statement.
func TestStatements(t *testing.T) {
	for _, c := range [][2]string{
		{"", "Prog"},
		{" \n# nothing", "Prog"},
		{"{}", "Prog(Block)"},
		{"{{}{a;}}", "Prog(Block(Block Block(Expr(Name:a))))"},
		{"{} {} a;", "Prog(Block Block Expr(Name:a))"},
		{"var a = 1;", "Prog(Var:a(Int=1))"},
		{"a = 1;", "Prog(Set(Name:a Int=1))"},
		{"a[1] = 2;", "Prog(Set(Index(Name:a Int=1) Int=2))"},
		{"a.b = 2;", "Prog(Set(Field:b(Name:a) Int=2))"},
		{"f(1).b[2].c = d;", "Prog(Set(Field:c(Index(Field:b(Call(Name:f Int=1)) Int=2)) Name:d))"},
		{"(a) = 1;", "Prog(Set(Name:a Int=1))"},
		{"((a.b)) = 1;", "Prog(Set(Field:b(Name:a) Int=1))"},
		{"({a: 1}.a) = 2;", "Prog(Set(Field:a(Rec(Key:a(Int=1))) Int=2))"},
		{"({})[0] = 2;", "Prog(Set(Index(Rec Int) Int=2))"},
		{"\"a\"[0] = 2;", "Prog(Set(Index(Str:a Int) Int=2))"},
		{"fn () {}.a = 2;", "Prog(Set(Field:a(Lambda(Block)) Int=2))"},
		{"if a {}", "Prog(If(Name:a Block))"},
		{"if a {} else {}", "Prog(If(Name:a Block Block))"},
		{"if a {b;} else {c;} d;", "Prog(If(Name:a Block(Expr(Name:b)) Block(Expr(Name:c))) Expr(Name:d))"},
		{"if a {} else if b {}", "Prog(If(Name:a Block If(Name:b Block)))"},
		{"if a {} else if b {} else if c {} else {}", "Prog(If(Name:a Block If(Name:b Block If(Name:c Block Block))))"},
		{"if a { if b {} } else {}", "Prog(If(Name:a Block(If(Name:b Block)) Block))"},
		{"if {} {}", "Prog(If(Rec Block))"},
		{"if {a: 1} {}", "Prog(If(Rec(Key:a(Int=1)) Block))"},
		{"if fn () {} {}", "Prog(If(Lambda(Block) Block))"},
		{"while a {}", "Prog(While(Name:a Block))"},
		{"while {} {break;}", "Prog(While(Rec Block(Break)))"},
		{"break; continue;", "Prog(Break Continue)"},
		{"return; return 1; return {};", "Prog(Return Return(Int=1) Return(Rec))"},
		{"throw a;", "Prog(Throw(Name:a))"},
		{"throw {k: 1};", "Prog(Throw(Rec(Key:k(Int=1))))"},
		{"try {} catch e {}", "Prog(Try:e(Block Block))"},
		{"try {a;} catch e {b; c;} d;", "Prog(Try:e(Block(Expr(Name:a)) Block(Expr(Name:b) Expr(Name:c))) Expr(Name:d))"},
		{"fn f() {}", "Prog(Fn:f(Block))"},
		{"fn f(a) {}", "Prog(Fn:f=1(Name:a Block))"},
		{"fn f(a, a, b) { return a; } f;", "Prog(Fn:f=3(Name:a Name:a Name:b Block(Return(Name:a))) Expr(Name:f))"},
		{"fn f(a) { fn g() {} }", "Prog(Fn:f=1(Name:a Block(Fn:g(Block))))"},
		{"fn () {};", "Prog(Expr(Lambda(Block)))"},
		{"fn (a) {}(1);", "Prog(Expr(Call(Lambda=1(Name:a Block) Int=1)))"},
		{"fn () {} + 1;", "Prog(Expr(Bin:+(Lambda(Block) Int=1)))"},
		{"1;", "Prog(Expr(Int=1))"},
		{"({});", "Prog(Expr(Rec))"},
		{"({a: 1}).b;", "Prog(Expr(Field:b(Rec(Key:a(Int=1)))))"},
		{"[] ;", "Prog(Expr(List))"},
		{"not a;", "Prog(Expr(Not(Name:a)))"},
		{"spawn f();", "Prog(Expr(Spawn(Name:f)))"},
	} {
		wantTree(t, c[0], c[1], false)
		wantTree(t, "{"+c[0]+"\n}", "Prog(Block"+strings.TrimPrefix(c[1], "Prog")+")", false)
	}
}

// P6.1: each expression.
func TestExpressions(t *testing.T) {
	for _, c := range [][2]string{
		{"0", "Int"},
		{"2305843009213693951", "Int=2305843009213693951"},
		{`""`, "Str"},
		{`"a"`, "Str:a"},
		{`"+"`, "Str:+"},
		{`"var"`, "Str:var"},
		{`"\x00\""`, "Str:\x00\""},
		{"true", "True"},
		{"false", "False"},
		{"nil", "Nil"},
		{"a", "Name:a"},
		{"print", "Name:print"},
		{"[]", "List"},
		{"[1]", "List(Int=1)"},
		{"[1, [2, 3], a or b]", "List(Int=1 List(Int=2 Int=3) Or(Name:a Name:b))"},
		{"{}", "Rec"},
		{"{a: 1}", "Rec(Key:a(Int=1))"},
		{"{a: 1, b: {a: 2}, a: not c}", "Rec(Key:a(Int=1) Key:b(Rec(Key:a(Int=2))) Key:a(Not(Name:c)))"},
		{"f()", "Call(Name:f)"},
		{"f(1)", "Call(Name:f Int=1)"},
		{"f(1, {}, a and b, fn () {})", "Call(Name:f Int=1 Rec And(Name:a Name:b) Lambda(Block))"},
		{"f()()(1)", "Call(Call(Call(Name:f)) Int=1)"},
		{"a[0]", "Index(Name:a Int)"},
		{"a[0][b or c]", "Index(Index(Name:a Int) Or(Name:b Name:c))"},
		{"a.b", "Field:b(Name:a)"},
		{"a.b.c", "Field:c(Field:b(Name:a))"},
		{"1.b", "Field:b(Int=1)"},
		{"a.b(1)[2].c(3)", "Call(Field:c(Index(Call(Field:b(Name:a) Int=1) Int=2)) Int=3)"},
		{"[1][0]", "Index(List(Int=1) Int)"},
		{"nil()", "Call(Nil)"},
		{`"a".b`, "Field:b(Str:a)"},
		{"{}.a", "Field:a(Rec)"},
		{"fn () {}", "Lambda(Block)"},
		{"fn (a, b) { return a; }", "Lambda=2(Name:a Name:b Block(Return(Name:a)))"},
		{"fn () {}()", "Call(Lambda(Block))"},
		{"spawn f()", "Spawn(Name:f)"},
		{"spawn f(1, 2)", "Spawn(Name:f Int=1 Int=2)"},
		{"spawn f(x)(1)", "Spawn(Call(Name:f Name:x) Int=1)"},
		{"spawn a.b[1](2)", "Spawn(Index(Field:b(Name:a) Int=1) Int=2)"},
		{"spawn (f)(1)", "Spawn(Name:f Int=1)"},
		{"spawn (a + b)(1)", "Spawn(Bin:+(Name:a Name:b) Int=1)"},
		{"spawn (spawn f())()", "Spawn(Spawn(Name:f))"},
		{"spawn fn () {}()", "Spawn(Lambda(Block))"},
		{"spawn f(spawn g())", "Spawn(Name:f Spawn(Name:g))"},
		{"(spawn f()).a", "Field:a(Spawn(Name:f))"},
		{"(((a)))", "Name:a"},
		{"(f)(a)", "Call(Name:f Name:a)"},
	} {
		wantExpr(t, c[0], c[1])
	}
}

// P6.2: what binds how.
func TestBinding(t *testing.T) {
	for _, c := range [][2]string{
		{"a or b or c", "Or(Or(Name:a Name:b) Name:c)"},
		{"a and b and c", "And(And(Name:a Name:b) Name:c)"},
		{"a or b and c", "Or(Name:a And(Name:b Name:c))"},
		{"a and b or c", "Or(And(Name:a Name:b) Name:c)"},
		{"(a or b) and c", "And(Or(Name:a Name:b) Name:c)"},
		{"a or (b or c)", "Or(Name:a Or(Name:b Name:c))"},
		{"not a and b", "And(Not(Name:a) Name:b)"},
		{"a and not b or not c", "Or(And(Name:a Not(Name:b)) Not(Name:c))"},
		{"not not a", "Not(Not(Name:a))"},
		{"not a == b", "Not(Bin:==(Name:a Name:b))"},
		{"(not a) == b", "Bin:==(Not(Name:a) Name:b)"},
		{"a == (not b)", "Bin:==(Name:a Not(Name:b))"},
		{"a == b and c < d", "And(Bin:==(Name:a Name:b) Bin:<(Name:c Name:d))"},
		{"(a < b) < c", "Bin:<(Bin:<(Name:a Name:b) Name:c)"},
		{"a < (b < c)", "Bin:<(Name:a Bin:<(Name:b Name:c))"},
		{"a + b < c - d", "Bin:<(Bin:+(Name:a Name:b) Bin:-(Name:c Name:d))"},
		{"a - b - c", "Bin:-(Bin:-(Name:a Name:b) Name:c)"},
		{"a - b + c - d", "Bin:-(Bin:+(Bin:-(Name:a Name:b) Name:c) Name:d)"},
		{"a - (b - c)", "Bin:-(Name:a Bin:-(Name:b Name:c))"},
		{"a * b / c % d", "Bin:%(Bin:/(Bin:*(Name:a Name:b) Name:c) Name:d)"},
		{"a + b * c", "Bin:+(Name:a Bin:*(Name:b Name:c))"},
		{"a * b + c", "Bin:+(Bin:*(Name:a Name:b) Name:c)"},
		{"a * (b + c)", "Bin:*(Name:a Bin:+(Name:b Name:c))"},
		{"-a", "Neg(Name:a)"},
		{"--a", "Neg(Neg(Name:a))"},
		{"-1", "Neg(Int=1)"},
		{"a--b", "Bin:-(Name:a Neg(Name:b))"},
		{"-a + b", "Bin:+(Neg(Name:a) Name:b)"},
		{"-a * -b", "Bin:*(Neg(Name:a) Neg(Name:b))"},
		{"-(a * b)", "Neg(Bin:*(Name:a Name:b))"},
		{"-a.b", "Neg(Field:b(Name:a))"},
		{"-f(1)[2]", "Neg(Index(Call(Name:f Int=1) Int=2))"},
		{"(-a).b", "Field:b(Neg(Name:a))"},
		{"not -a", "Not(Neg(Name:a))"},
		{"-(not a)", "Neg(Not(Name:a))"},
		{"-spawn f()", "Neg(Spawn(Name:f))"},
		{"not spawn f()", "Not(Spawn(Name:f))"},
		{"a * spawn f() + spawn g()", "Bin:+(Bin:*(Name:a Spawn(Name:f)) Spawn(Name:g))"},
		{"spawn f() == spawn g()", "Bin:==(Spawn(Name:f) Spawn(Name:g))"},
		{"spawn f() or a", "Or(Spawn(Name:f) Name:a)"},
		{"a or b and not c == -d", "Or(Name:a And(Name:b Not(Bin:==(Name:c Neg(Name:d)))))"},
	} {
		wantExpr(t, c[0], c[1])
	}
	for _, sign := range strings.Fields("== != < <= > >=") {
		wantExpr(t, "a"+sign+"b", "Bin:"+sign+"(Name:a Name:b)")
		wantExpr(t, "not a+1 "+sign+" b*2 and c", "And(Not(Bin:"+sign+"(Bin:+(Name:a Int=1) Bin:*(Name:b Int=2))) Name:c)")
	}
	for _, sign := range strings.Fields("+ -") {
		wantExpr(t, "a*b"+sign+"c"+sign+"d%e", "Bin:"+sign+"(Bin:"+sign+"(Bin:*(Name:a Name:b) Name:c) Bin:%(Name:d Name:e))")
	}
	for _, sign := range strings.Fields("* / %") {
		wantExpr(t, "a+-b"+sign+"c"+sign+"-d", "Bin:+(Name:a Bin:"+sign+"(Bin:"+sign+"(Neg(Name:b) Name:c) Neg(Name:d)))")
	}
}

// P6.3: of each kind of node, with ( ) about it and about what it begins with.
func TestAt(t *testing.T) {
	for _, c := range [][2]string{
		{"  # a\n", "Prog@0"},
		{" a;", "Prog@0(Expr@1(Name:a@1))"},
		{" { b; }", "Prog@0(Block@1(Expr@3(Name:b@3)))"},
		{"\nvar a = 1;", "Prog@0(Var:a@1(Int=1@9))"},
		{" a = 1;", "Prog@0(Set@1(Name:a@1 Int=1@5))"},
		{"(a) = (1);", "Prog@0(Set@1(Name:a@1 Int=1@7))"},
		{"(a)[(0)] = (1);", "Prog@0(Set@1(Index@1(Name:a@1 Int@5) Int=1@12))"},
		{" if a {} else if b {} else {}", "Prog@0(If@1(Name:a@4 Block@6 If@14(Name:b@17 Block@19 Block@27)))"},
		{" while (a) {}", "Prog@0(While@1(Name:a@8 Block@11))"},
		{" break; continue;", "Prog@0(Break@1 Continue@8)"},
		{" return; return (1); throw (a);", "Prog@0(Return@1 Return@9(Int=1@17) Throw@21(Name:a@28))"},
		{" try { } catch e { }", "Prog@0(Try:e@1(Block@5 Block@17))"},
		{" fn f( a, b) {}", "Prog@0(Fn:f=2@1(Name:a@7 Name:b@10 Block@13))"},
		{" fn ( a) {};", "Prog@0(Expr@1(Lambda=1@1(Name:a@6 Block@9)))"},
		{"(fn () {})();", "Prog@0(Expr@1(Call@1(Lambda@1(Block@7))))"},
		{"( \"a\" );", "Prog@0(Expr@2(Str:a@2))"},
		{"[true, false, nil, 7];", "Prog@0(Expr@0(List@0(True@1 False@7 Nil@14 Int=7@19)))"},
		{"({ a : (1)});", "Prog@0(Expr@1(Rec@1(Key:a@3(Int=1@8))))"},
		{"x = (1 + 2) * y;", "Prog@0(Set@0(Name:x@0 Bin:*@5(Bin:+@5(Int=1@5 Int=2@9) Name:y@14)))"},
		{"((1 + 2)) * (y);", "Prog@0(Expr@2(Bin:*@2(Bin:+@2(Int=1@2 Int=2@6) Name:y@13)))"},
		{"(a) or (b) and (c);", "Prog@0(Expr@1(Or@1(Name:a@1 And@8(Name:b@8 Name:c@16))))"},
		{"a - b - c;", "Prog@0(Expr@0(Bin:-@0(Bin:-@0(Name:a@0 Name:b@4) Name:c@8)))"},
		{"(a) == (b);", "Prog@0(Expr@1(Bin:==@1(Name:a@1 Name:b@8)))"},
		{"(not (a));", "Prog@0(Expr@1(Not@1(Name:a@6)))"},
		{"(- (a));", "Prog@0(Expr@1(Neg@1(Name:a@4)))"},
		{"(f)((a), b);", "Prog@0(Expr@1(Call@1(Name:f@1 Name:a@5 Name:b@9)))"},
		{"((f)(a))(b);", "Prog@0(Expr@2(Call@2(Call@2(Name:f@2 Name:a@5) Name:b@9)))"},
		{"((a)[(0)]).b;", "Prog@0(Expr@2(Field:b@2(Index@2(Name:a@2 Int@6))))"},
		{"( spawn (f)(a));", "Prog@0(Expr@2(Spawn@2(Name:f@9 Name:a@12)))"},
		{" spawn f(a)(b);", "Prog@0(Expr@1(Spawn@1(Call@7(Name:f@7 Name:a@9) Name:b@12)))"},
	} {
		wantTree(t, c[0], c[1], true)
	}
}

// What is answered shares nothing with the text.
func TestParseMemory(t *testing.T) {
	b := []byte("abc = \"def\" + ghi;   spare")
	text := b[:18]
	l, e, at := Parse(text)
	want := slices.Clone(l)
	if e != api.OK || at != 18 || string(b) != "abc = \"def\" + ghi;   spare" {
		t.Error(e, at, string(b))
	}
	for i := range b {
		b[i] = '!'
	}
	if !slices.Equal(l, want) || told(l, false) != "Prog(Set(Name:abc Bin:+(Str:def Name:ghi)))" {
		t.Error(told(l, false))
	}
	copy(b, "abc = \"def\" + ghi;")
	again, _, _ := Parse(text)
	again[2].Text = "x"
	if !slices.Equal(l, want) {
		t.Error("two answers share memory")
	}
}

// P6.4: as many tokens as there may be, nested as deeply as that goes.
func TestLongPrograms(t *testing.T) {
	for _, c := range []struct {
		begin, again, end string
		each              int // nodes that it makes
		ahead             int // nodes that there are without
	}{
		{"a", "+a", ";", 2, 3},
		{"a", " or a", ";", 2, 3},
		{"a", "()", ";", 1, 3},
		{"a", ".a", ";", 1, 3},
		{"a", "[a]", ";", 2, 3},
		{"[a", ",a", "];", 1, 4},
		{"({a:a", ",a:a", "});", 2, 5},
		{"if a{}", "else if a{}", "", 3, 4},
		{"", "a;", "", 2, 1},
		{"", "{}", "", 1, 1},
	} {
		n := (api.MaxTokens - 8) / len(strings.Fields(strings.NewReplacer("+", "+ ", "()", "( )", ".", ". ", "[", "[ ", "]", " ]", ",", ", ", ":", " : ", "{}", " { }", ";", " ;").Replace(c.again)))
		text := c.begin + strings.Repeat(c.again, n) + c.end
		l, e, at := Parse([]byte(text))
		if e != api.OK || at != len(text) || len(l) != c.ahead+n*c.each {
			t.Errorf("%q: %d nodes, %d at %d", c.again, len(l), e, at)
			continue
		}
		if at, e := Check(l); at != 0 || e != api.OK {
			t.Errorf("%q: checked: %d at %d", c.again, e, at)
		}
		if end, e := Behind(l, 0); end != len(l) || e != api.OK {
			t.Errorf("%q: behind: %d, %d", c.again, end, e)
		}
	}
}
