package print

import (
	"strings"
	"testing"

	"jacquard/api"
)

// wantPrinted: of a text, its program's text; of that again the same.
func wantPrinted(t *testing.T, text, want string) {
	t.Helper()
	wantText(t, parsed(t, text), want)
	wantText(t, parsed(t, want), want)
}

// P7.2: each kind of statements.
func TestStatements(t *testing.T) {
	for _, c := range []struct{ text, want string }{
		{"var\nx=1;", "var x = 1;\n"},
		{"var x=a or b;", "var x = a or b;\n"},
		{"x=1;", "x = 1;\n"},
		{"(x)=(1);", "x = 1;\n"},
		{"x.y=z.w;", "x.y = z.w;\n"},
		{"x[1]=y[2];", "x[1] = y[2];\n"},
		{"if a{}", "if a {\n}\n"},
		{"if(a or b){x;}", "if a or b {\n  x;\n}\n"},
		{"if a{}else{}", "if a {\n} else {\n}\n"},
		{"if a{x;}else{y;z;}", "if a {\n  x;\n} else {\n  y;\n  z;\n}\n"},
		{"if a{}else if b{}", "if a {\n} else if b {\n}\n"},
		{"if a{}else if b{x;}else if c{}else{y;}", "if a {\n} else if b {\n  x;\n} else if c {\n} else {\n  y;\n}\n"},
		{"if a{}else{if b{}}", "if a {\n} else {\n  if b {\n  }\n}\n"},
		{"if a{if b{}}else{}", "if a {\n  if b {\n  }\n} else {\n}\n"},
		{"while a{}", "while a {\n}\n"},
		{"while(a<b){break;continue;}", "while a < b {\n  break;\n  continue;\n}\n"},
		{"break ;", "break;\n"},
		{"continue ;", "continue;\n"},
		{"return ;", "return;\n"},
		{"return(1);", "return 1;\n"},
		{"return-1;", "return -1;\n"},
		{"return nil;", "return nil;\n"},
		{"throw\"a\";", "throw \"a\";\n"},
		{"throw[1];", "throw [1];\n"},
		{"try{}catch e{}", "try {\n} catch e {\n}\n"},
		{"try{a;}catch e{b;c;}", "try {\n  a;\n} catch e {\n  b;\n  c;\n}\n"},
		{"fn f(){}", "fn f() {\n}\n"},
		{"fn f(a){}", "fn f(a) {\n}\n"},
		{"fn f(a,b,c){return;}", "fn f(a, b, c) {\n  return;\n}\n"},
		{"(x);", "x;\n"},
		{"f ( 1 , 2 ) ;", "f(1, 2);\n"},
		{"fn(){};", "fn () {\n};\n"},
		{"{}", "{\n}\n"},
		{"{x;{}y;}", "{\n  x;\n  {\n  }\n  y;\n}\n"},
		{"{{{}}}", "{\n  {\n    {\n    }\n  }\n}\n"},
	} {
		wantPrinted(t, c.text, c.want)
	}
}

// P7.2: two blanks for each block about a line, whatever the block is of.
func TestIndents(t *testing.T) {
	forms := []struct{ begin, end string }{
		{"{", "}"}, {"if a {", "}"}, {"if a {\n#} else {", "}"}, {"if a {\n#} else if b {", "}"}, {"if a {\n#} else if b {\n#} else {", "}"}, {"while a {", "}"},
		{"try {", "} catch e {\n#}"}, {"try {\n#} catch e {", "}"}, {"fn f(a) {", "}"}, {"x = fn () {", "};"}, {"f(1, fn (a, b) {", "}, 2);"}, {"return [{k: fn () {", "}}];"}, {"if fn () {", "}() {\n#}"},
	}
	for _, outer := range forms {
		for _, middle := range forms {
			for _, inner := range forms {
				at := func(deep int, text string) string {
					blanks := strings.Repeat("  ", deep)
					return blanks + strings.ReplaceAll(text, "#", blanks) + "\n"
				}
				text := at(0, "a;") + at(0, outer.begin) + at(1, "b;") + at(1, middle.begin) + at(2, inner.begin) + at(3, "c;") + at(2, inner.end) + at(2, "d;") + at(1, middle.end) + at(0, outer.end) + at(0, "e;")
				wantPrinted(t, text, text)
				wantText(t, parsed(t, strings.Join(strings.Fields(text), " ")), text)
				stopIfFailed(t)
			}
		}
	}
}

// P7.2: a function that is an expression is as deep as the statement that it stands in, however many parts are about it.
func TestIndentsOfLambdas(t *testing.T) {
	wantPrinted(t, "x=[[fn(){y;},fn(a){f(fn(){z;},1);}],{k:fn(){}}];", "x = [[fn () {\n  y;\n}, fn (a) {\n  f(fn () {\n    z;\n  }, 1);\n}], {k: fn () {\n}}];\n")
	wantPrinted(t, "{fn(){}.a[fn(){b;}]=fn(){c;}();}", "{\n  fn () {\n  }.a[fn () {\n    b;\n  }] = fn () {\n    c;\n  }();\n}\n")
	wantPrinted(t, "while fn(){a;}{b;}", "while fn () {\n  a;\n} {\n  b;\n}\n")
	wantPrinted(t, "if fn(){a;}{b;}else if fn(){c;}{}", "if fn () {\n  a;\n} {\n  b;\n} else if fn () {\n  c;\n} {\n}\n")
	wantPrinted(t, "{return fn(){a;}or-fn(){};}", "{\n  return fn () {\n    a;\n  } or -fn () {\n  };\n}\n")
}

// P7.2: where a { would stand first.
func TestBraceFirst(t *testing.T) {
	for _, c := range []struct{ text, want string }{
		{"({});", "({});\n"},
		{"((({})));", "({});\n"},
		{"({a:1,b:2});", "({a: 1, b: 2});\n"},
		{"({}).a;", "({}.a);\n"},
		{"({})[1];", "({}[1]);\n"},
		{"({})(1);", "({}(1));\n"},
		{"({})+1;", "({} + 1);\n"},
		{"({})*1+1;", "({} * 1 + 1);\n"},
		{"({})==1;", "({} == 1);\n"},
		{"({})and 1;", "({} and 1);\n"},
		{"({})or 1;", "({} or 1);\n"},
		{"({}).a[b](c)*d+e<f and g or h;", "({}.a[b](c) * d + e < f and g or h);\n"},
		{"({}.a)=1;", "({}.a) = 1;\n"},
		{"({}).a=1;", "({}.a) = 1;\n"},
		{"({})[a]=1;", "({}[a]) = 1;\n"},
		{"({})(a)[b].c={};", "({}(a)[b].c) = {};\n"},
		{"{({}).a=1;({});}", "{\n  ({}.a) = 1;\n  ({});\n}\n"},
		{"if a{({});}", "if a {\n  ({});\n}\n"},
		{"x=fn(){({});};", "x = fn () {\n  ({});\n};\n"},
		{"({a:fn(){({});}});", "({a: fn () {\n  ({});\n}});\n"},
		// ( ) stand there already, or something else stands first
		{"({}+1)*2;", "({} + 1) * 2;\n"},
		{"({}or 1)and 2;", "({} or 1) and 2;\n"},
		{"({}<1)==2;", "({} < 1) == 2;\n"},
		{"({}+1).a;", "({} + 1).a;\n"},
		{"({}+1).a=2;", "({} + 1).a = 2;\n"},
		{"({}and 1)[2]=3;", "({} and 1)[2] = 3;\n"},
		{"({}*1)(2)[3]=4;", "({} * 1)(2)[3] = 4;\n"},
		{"-{};", "-{};\n"},
		{"(-{}).a;", "(-{}).a;\n"},
		{"(not{}).a=1;", "(not {}).a = 1;\n"},
		{"not{};", "not {};\n"},
		{"spawn{}();", "spawn {}();\n"},
		{"(spawn{}()).a=1;", "(spawn {}()).a = 1;\n"},
		{"[{}];", "[{}];\n"},
		{"[{}].a=1;", "[{}].a = 1;\n"},
		{"a+{};", "a + {};\n"},
		{"a[{}]={};", "a[{}] = {};\n"},
		{"a({});", "a({});\n"},
		{"\"{\";", "\"{\";\n"},
		// it is no statement's first
		{"var x={};", "var x = {};\n"},
		{"x={}.a;", "x = {}.a;\n"},
		{"return{};", "return {};\n"},
		{"return{}or 1;", "return {} or 1;\n"},
		{"throw{};", "throw {};\n"},
		{"if{}{}else if{}.a{}", "if {} {\n} else if {}.a {\n}\n"},
		{"while{}{}", "while {} {\n}\n"},
	} {
		wantPrinted(t, c.text, c.want)
	}
}

// P7.2: the ( ) stand about the whole text, though what is behind the } is then within one more of them than it was.
func TestBraceFirstAboutMuch(t *testing.T) {
	deep := strings.Repeat("[", api.MaxNest-1) + strings.Repeat("]", api.MaxNest-1)
	wantText(t, parsed(t, "({})["+deep+"];"), "({}["+deep+"]);\n")
}
