package parse

import (
	"slices"
	"strings"
	"testing"

	"jacquard/api"
)

// wantFault: no node beside it.
func wantFault(t *testing.T, text string, e api.Errno, at int) {
	t.Helper()
	l, gotE, gotAt := Parse([]byte(text))
	if gotE != e || gotAt != at || len(l) != 0 {
		t.Errorf("%.99q: %d nodes, %d at %d, not %d at %d", text, len(l), gotE, gotAt, e, at)
	}
}

// wantFaultMarked: the token at fault stands behind a ^.
func wantFaultMarked(t *testing.T, marked string, e api.Errno) {
	t.Helper()
	at := strings.Index(marked, "^")
	wantFault(t, marked[:at]+marked[at+1:], e, at)
}

// P6.4: the chapter's examples.
func TestFaultExamples(t *testing.T) {
	wantFault(t, "1 = 2;", api.ErrForm, 2)
	wantFault(t, "a < b < c;", api.ErrForm, 6)
}

// P6.4: what lex tells comes first, wherever it stands.
func TestFaultOfLex(t *testing.T) {
	wantFault(t, "01", api.ErrForm, 1)
	wantFault(t, "x = = 07;", api.ErrForm, 7)
	wantFault(t, ") ) \"a", api.ErrForm, 6)
	wantFault(t, "; 2305843009213693952", api.ErrRange, 2)
	wantFault(t, "x = 1; @", api.ErrForm, 7)
	wantFault(t, "1 = 2; !", api.ErrForm, 8)
	wantFault(t, strings.Repeat("(", 100)+"@", api.ErrForm, 100)
	wantFault(t, strings.Repeat(" ", api.MaxSource+1), api.ErrLong, 0)
	wantFault(t, ")"+strings.Repeat(" ", api.MaxSource), api.ErrLong, 0)
	wantFault(t, strings.Repeat(")", api.MaxTokens+1), api.ErrMany, api.MaxTokens)
	wantFault(t, strings.Repeat(")", api.MaxTokens), api.ErrForm, 0)
	wantFault(t, strings.Repeat("a;", api.MaxTokens/2)+"b", api.ErrMany, api.MaxTokens)
}

// P6.4: a token that no program has there.
func TestFaultForm(t *testing.T) {
	for _, marked := range []string{
		"^;", "^=", "^}", "^)", "^]", "^,", "^:", "^.", "^+", "^*", "^==", "^else {}", "^catch e {}", "^and a;", "^or a;", "a; ^;", "{} ^;", "{ ^; }",
		"a^", "a ^b;", "a ^{}", "a ^1;", "a ^\"=\" 1;", "a ^\"+\" 1;", "a ^var b = 1;", "a; b ^}", "{ a ^}", "{ ^", "{ a; ^", "{ { } ^", "{} ^}", "{a^: 1};", "{\"a\"^: 1};", "{} ^.a;", "{} ^= 1;",
		"var ^", "var ^1 = 1;", "var ^if = 1;", "var ^= 1;", "var a^;", "var a ^== 1;", "var a^.b = 1;", "var a^[0] = 1;", "var a = ^;", "var a = 1 ^= 2;", "var a = b ^= 2;", "var a = 1^", "var a = 1 ^}",
		"1 ^= 2;", "\"a\" ^= 2;", "nil ^= 2;", "a + b ^= 2;", "-a ^= 2;", "not a ^= 2;", "f() ^= 2;", "a.b() ^= 2;", "[a] ^= 2;", "({}) ^= 2;", "(a + b) ^= 2;", "(f()) ^= 2;", "a < b ^= 2;", "a and b ^= 2;", "fn () {} ^= 2;", "spawn f() ^= 2;",
		"a = ^;", "a = b ^= c;", "a = 1^", "(a ^= 1);", "f(a ^= 1);", "[a ^= 1];", "a[b ^= 1];", "return a ^= 1;", "throw a ^= 1;", "if a ^= 1 {}", "({a ^= 1});", "-a.b ^= 1;", "a ^: 1;",
		"if ^", "if ^;", "if { a^; }", "if a ^", "if a ^;", "if a ^b;", "if a ^if", "if {} ^", "if {} ^else {}", "if a {} else ^else {}", "if a {} else ^", "if a {} else ^a;", "if a {} else ^while", "if a {} else ^;", "if a {} else {} ^else {}", "if a {} else if {} ^else {}", "if a {} else if b ^else", "if (a ^{}",
		"while ^", "while { a^; }", "while a ^;", "while a ^", "while a {} ^else {}", "while ^;",
		"break ^", "break ^a;", "break ^}", "continue ^1;", "continue ^", "return ^", "return ^}", "return ^=", "return a ^b;", "return ^return;", "throw ^;", "throw ^", "throw a ^}",
		"try ^", "try ^a;", "try {} ^", "try {} ^;", "try {} ^try {}", "try {} catch ^", "try {} catch ^{}", "try {} catch ^1 {}", "try {} catch ^nil {}", "try {} catch e ^", "try {} catch e ^;", "try {} catch ^(e) {}", "try {} catch e {} ^catch e {}",
		"fn ^", "fn ^;", "fn ^{}", "fn ^1() {}", "fn ^if() {}", "fn f ^", "fn f ^{}", "fn f ^a", "fn f(^", "fn f(^1) {}", "fn f(^(a)) {}", "fn f(^,) {}", "fn f(a ^b) {}", "fn f(a,^) {}", "fn f(a,^, b) {}", "fn f(a ^= 1) {}", "fn f(a,^nil) {}", "fn f(a ^;", "fn f(a) ^", "fn f(a) ^;", "fn f(a) ^a;", "fn f(a) {} ^;", "fn f(a) { ^",
		"fn () ^;", "fn () {} ^", "fn () {} ^a", "fn () {} ^fn () {}", "fn () {} ^}", "x = fn ^f() {};", "(fn ^f() {});", "-fn ^f() {};", "not fn ^f() {};", "spawn fn ^f() {}();", "f(fn ^f() {});",
		"(^);", "(^", "(^;", "(a^", "(a^;", "(a ^b);", "(a^]", "(a^, b);", "a^);", "(^var a", "(^return);", "(^else", "({^1});", "({^\"a\": 1});", "({^if: 1});", "({^,});", "({a^});", "({a ^, b: 1});", "({a: ^});", "({a: ^, b: 1});", "({a: 1 ^b: 2});", "({a: 1,^});", "({a: 1, b^});", "({a: 1^;", "({a: 1 ^= 2});", "({a^.b: 1});", "({^(a): 1});", "({^[a]: 1});", "({^-a: 1});", "({^",
		"[^,];", "[1^;", "[1,^];", "[1,^, 2];", "[1 ^2];", "[1^);", "[^", "[1^: 2];", "[1 ^}", "[^;",
		"f(^,);", "f(1,^);", "f(1 ^2);", "f(1^];", "f(1^;", "f(^", "f(1,^,", "f(a^: 1);", "f(^;", "f(^]", "f()^", "f() ^a;", "f() ^1;", "f() ^{}", "f() ^\"(\" 1);",
		"a[^];", "a[1^;", "a[1^, 2];", "a[1^);", "a[^", "a[1^: 2];", "a[^;", "a[1]^", "a[1] ^a;",
		"a.^;", "a.^1;", "a.^\"b\";", "a.^(b);", "a.^if;", "a.^nil;", "a.^", "a.^.b;", "a.b ^c;", "a.b^", "a.^[0];", "a.^fn;",
		"a + ^;", "a + ^+ b;", "a + ^* b;", "a + ^", "a + ^not b;", "a * ^not b;", "a == ^not b;", "- ^not b;", "-^;", "-^)", "-^", "- ^+a;", "a - ^/ b;", "a ^not b;", "not ^;", "not ^", "not ^and b;", "not a ^not b;", "a and ^;", "a and ^or b;", "a or ^", "a or ^;", "a or ^== b;",
		"a == ^;", "a == ^== b;", "a = ^= b;", "a == b ^== c;", "a == b ^!= c;", "a < b + c ^>= d;", "a < (b) ^< c;", "not a < b ^< c;", "a < b and c < d ^< e;", "a < b ^== c;", "[a < b ^< c];", "f(a < b ^< c);", "(a < b ^< c);",
		"spawn ^;", "spawn ^", "spawn f^;", "spawn f^", "spawn f.a^;", "spawn f[0]^;", "spawn f().a^;", "spawn f()[0] ^+ 1;", "spawn f ^+ g();", "spawn f.^;", "spawn (f())^;", "spawn (f(1))^)", "spawn [f()]^;", "spawn fn () {}^;", "spawn ^spawn f();", "spawn ^-f();", "spawn ^not f();", "(spawn f^)();", "[spawn f^, g()];", "spawn 1 ^= 2;", "spawn f.a ^= 2;", "spawn f ^and g();", "spawn f(1,^);", "spawn (^);",
		"^else", "^catch", "a ^else {}", "a ^catch", "{ ^else", "{ ^)",
	} {
		if strings.Count(marked, "^") != 1 {
			t.Fatalf("%q", marked)
		}
		wantFaultMarked(t, marked, api.ErrForm)
		wantFaultMarked(t, "x; { y = 1; } "+marked, api.ErrForm)
		if !strings.HasSuffix(marked, "^") { // whatever stands behind the token at fault plays no part
			wantFaultMarked(t, marked+" ; ) 1 = }", api.ErrForm)
		}
	}
}

// P6.4: each opening by itself, at MaxNest and beyond; a ^ marks what is first beyond it.
func TestNestAlone(t *testing.T) {
	const n = api.MaxNest
	for _, c := range []struct{ begin, again, inner, end, last string }{
		{"", "^(", "a", ")", ";"},
		{"", "^[", "a", "]", ";"},
		{"", "f^(", "a", ")", ";"},
		{"", "a^[", "a", "]", ";"},
		{"x = ", "^{k:", "a", "}", ";"},
		{"", "^-", "a", "", ";"},
		{"", "^not ", "a", "", ";"},
		{"", "^{", "a;", "}", ""},
		{"", "if a ^{", "a;", "}", ""},
		{"", "if a ^{} else {", "a;", "}", ""},
		{"", "while a ^{", "a;", "}", ""},
		{"", "try ^{", "a;", "} catch e {}", ""},
		{"", "try ^{} catch e {", "a;", "}", ""},
		{"", "fn f^() {", "a;", "}", ""},
		{"", "fn f^(a) {", "", "}", ""},
		{"", "x = fn ^() {", "", "};", ""},
	} {
		first := strings.Index(c.again, "^")
		again := strings.Replace(c.again, "^", "", 1)
		text := func(n int) string {
			return c.begin + strings.Repeat(again, n) + c.inner + strings.Repeat(c.end, n) + c.last
		}
		for _, fine := range []int{1, n - 1, n} {
			if l, e, at := Parse([]byte(text(fine))); e != api.OK || at != len(text(fine)) || len(l) == 0 {
				t.Errorf("%q, %d: %d at %d", again, fine, e, at)
			}
		}
		for _, many := range []int{n + 1, n + 2, 2 * n} {
			wantFault(t, text(many), api.ErrMany, len(c.begin)+n*len(again)+first)
		}
	}
}

// P6.4: what is open and what no longer is, told at the bound.
func TestNestOpen(t *testing.T) {
	many := func(s string, less int) string { return strings.Repeat(s, api.MaxNest-less) }
	for _, fine := range []string{
		many("(", 0) + "a - b - c" + many(")", 0) + ";",
		many("(", 1) + "-a - -b * -c + -d" + many(")", 1) + ";",
		many("(", 1) + "not a and not b or not c" + many(")", 1) + ";",
		many("(", 1) + "(a) + [b] + c[0] + f(1)(2)[3].d" + many(")", 1) + ";",
		many("(", 2) + "spawn f() + spawn f(1)" + many(")", 2) + ";",
		many("(", 2) + "fn (a) { { } { } }" + many(")", 2) + ";",
		many("-", 0) + "a + (b) - -c;",
		many("-", 0) + "a.b.c;",
		many("-", 1) + "a(1)(2)[3];",
		many("not ", 0) + "a + b == c and not (b) or d;",
		many("not ", 1) + "a == (b) + -c;",
		many("not ", 1) + "-a == -b and not -c;",
		many("not ", 0) + "a and (b);",
		many("{", 1) + "{} {} a = [1]; if a {} else if b {} else {} fn f(a) {} try {} catch e {}" + many("}", 1),
		many("{", 2) + "fn f() { return; a[0] = {}; }" + many("}", 2),
		strings.Repeat("(a) + ", 200) + "b;",
		strings.Repeat("-a + ", 200) + "b;",
		strings.Repeat("not a or ", 200) + "b;",
		strings.Repeat("{}", 200) + strings.Repeat("if a {} else ", 200) + "{}",
		"f" + strings.Repeat("()", 200) + strings.Repeat("[0]", 200) + ";",
		strings.Repeat("spawn f() + ", 200) + "b;",
		many("spawn (", api.MaxNest/2) + "a" + many(")()", api.MaxNest/2) + ";",
	} {
		if _, e, at := Parse([]byte(fine)); e != api.OK || at != len(fine) {
			t.Errorf("%q: %d at %d", fine, e, at)
		}
	}
	for _, beyond := range []string{
		many("(", 0) + "a - ^-b",
		many("(", 0) + "a and ^not b",
		many("(", 0) + "a + ^(b)",
		many("(", 0) + "a + ^[]",
		many("(", 0) + "^{}",
		many("(", 0) + "a^()",
		many("(", 0) + "a^[0]",
		many("(", 0) + "^spawn f()",
		many("(", 1) + "spawn f^()",
		many("(", 1) + "spawn ^(f)()",
		many("(", 1) + "spawn f.a^[0]()",
		many("(", 2) + "spawn f(^(a))",
		many("(", 2) + "spawn f(a, ^-b)",
		many("(", 0) + "fn ^() {}",
		many("(", 1) + "fn () { ^{} }",
		many("(", 1) + "fn () { a = ^-b; }",
		many("-", 0) + "^-a",
		many("-", 0) + "^(a)",
		many("-", 0) + "a^(1)",
		many("-", 0) + "a^[1]",
		many("-", 0) + "^spawn f()",
		many("-", 0) + "a + " + many("-", 0) + "^-b",
		many("not ", 0) + "^not a",
		many("not ", 0) + "a == ^(b)",
		many("not ", 0) + "a + ^-b",
		many("not ", 0) + "a and " + many("not ", 0) + "^not b",
		many("{", 0) + "^{",
		many("{", 0) + "a; b = 1; ^{",
		many("{", 0) + "^(a);",
		many("{", 0) + "if a ^{}",
		many("{", 0) + "fn f^() {}",
		many("{", 1) + "if a {} else { ^{} }",
		many("{", 1) + "fn f() { ^-a; }",
		many("{", 1) + "fn f(a, b) { a ^() }",
		many("spawn (", api.MaxNest/2) + "^-a",
		many("spawn (", api.MaxNest/2) + "a^()",
		many("-(not ", 43) + "-^(a)",
	} {
		wantFaultMarked(t, beyond, api.ErrMany)
		wantFaultMarked(t, "x = 1; {} "+beyond+" ) = ;", api.ErrMany)
	}
}

// P6.4: where both apply, what no program has there is told; ahead of it and behind it, what comes first.
func TestNestAndForm(t *testing.T) {
	many := func(s string, less int) string { return strings.Repeat(s, api.MaxNest-less) }
	for _, marked := range []string{
		many("(", 0) + "a == ^not b", many("(", 0) + "a + ^not b", many("(", 0) + "^)", many("(", 0) + "^]", many("(", 0) + "^", many("(", 0) + "a ^{}", many("(", 0) + "a ^not b", many("(", 0) + "a ^spawn f()", many("(", 0) + "fn ^f() {}", many("(", 0) + "fn ^{", many("(", 0) + "fn ^[", many("(", 0) + "fn ^-",
		many("(", 1) + "spawn ^spawn f()", many("(", 1) + "spawn ^-f()", many("(", 1) + "spawn ^not f()", many("(", 1) + "spawn f ^{", many("(", 1) + "spawn f ^-g",
		many("-", 0) + "^not a", many("-", 0) + "^;", many("not ", 0) + "^and", many("{", 0) + "a ^{", many("{", 0) + "var ^(", many("{", 0) + "a.^(", many("{", 0) + "a.^[", many("{", 0) + "try ^[", many("{", 0) + "fn f ^[", many("{", 0) + "fn f ^{",
		many("(", 1) + "{^(", many("(", 1) + "{^-", many("(", 1) + "{^{", many("(", 1) + "{^[",
		"^) " + many("(", -1), "a ^b " + many("(", -1),
	} {
		wantFaultMarked(t, marked, api.ErrForm)
	}
	wantFaultMarked(t, many("(", 0)+"^( ) = ;", api.ErrMany)
}

// P6.4: MaxParams parameters, and one more.
func TestManyParameters(t *testing.T) {
	for _, begin := range []string{"fn f(", "x = fn (", "{ fn f("} {
		full := begin + "p1" + strings.Repeat(", p", api.MaxParams-1)
		end := ") {}"
		if begin == "x = fn (" {
			end = ") {};"
		} else if begin == "{ fn f(" {
			end = ") {}}"
		}
		if l, e, _ := Parse([]byte(full + end)); e != api.OK || !slices.ContainsFunc(l, func(n api.Node) bool { return n.Num == api.MaxParams && n.N == api.MaxParams+1 }) {
			t.Errorf("%q: %d", full, e)
		}
		wantFaultMarked(t, full+", ^p"+end, api.ErrMany)
		wantFaultMarked(t, full+", ^p, 1, )"+end, api.ErrMany)
		wantFaultMarked(t, full+", ^p", api.ErrMany)
		for _, form := range []string{", ^", ", ^)", ", ^1", ", ^nil", ", ^if", ", ^(p)", ", ^,", ", ^\"p\"", " ^p", " ^;", ", ^-p"} {
			wantFaultMarked(t, full+form, api.ErrForm)
		}
		wantFaultMarked(t, begin+"^1"+strings.Repeat(", p", api.MaxParams)+end, api.ErrForm)
	}
}

// P6.4: MaxParams arguments, and one more.
func TestManyArguments(t *testing.T) {
	for _, begin := range []string{"f(", "spawn f(", "a.b[0](", "x = -f(", "f()(", "spawn f()(", "f(1, 2)("} {
		full := begin + "(1 + 2)" + strings.Repeat(", a", api.MaxParams-1)
		if l, e, _ := Parse([]byte(full + ");")); e != api.OK || !slices.ContainsFunc(l, func(n api.Node) bool { return n.N == api.MaxParams+1 }) {
			t.Errorf("%q: %d", full, e)
		}
		for _, more := range []string{"a", "1", "\"\"", "\")\"", "true", "false", "nil", "not a", "spawn f()", "fn () {}", "(a)", "[a]", "[]", "{}", "{a: 1}", "-a", "(", "[", "{", "-", "not", "spawn", "fn", "a, a, )", "a ="} {
			wantFaultMarked(t, full+", ^"+more+");", api.ErrMany)
			wantFaultMarked(t, full+", ^"+more, api.ErrMany)
		}
		for _, form := range []string{", ^", ", ^)", ", ^]", ", ^}", ", ^,", ", ^;", ", ^:", ", ^.", ", ^=", ", ^+ a", ", ^* a", ", ^== a", ", ^and a", ", ^or a", ", ^if", ", ^var", ", ^else", ", ^return", ", ^break", ", ^while", ", ^try", ", ^catch", ", ^throw", ", ^continue", " ^a", " ^;", "^"} {
			wantFaultMarked(t, full+form, api.ErrForm)
		}
		wantFaultMarked(t, begin+"^+"+strings.Repeat(", a", api.MaxParams+3)+");", api.ErrForm)
	}
	most := strings.Repeat("a, ", 300)
	for _, text := range []string{"[" + most + "a];", "x = {" + strings.ReplaceAll(most, "a", "a: 1") + "a: 1};", "[f(" + strings.Repeat("a, ", api.MaxParams-1) + "a), " + most + "a];"} {
		if _, e, at := Parse([]byte(text)); e != api.OK {
			t.Errorf("%q: %d at %d", text, e, at)
		}
	}
	wantFaultMarked(t, strings.Repeat("(", api.MaxNest-1)+"f("+strings.Repeat("a, ", api.MaxParams)+"^(a", api.ErrMany)
}
