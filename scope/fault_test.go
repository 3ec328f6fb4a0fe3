package scope

import (
	"testing"

	"jacquard/api"
)

// P8.5: ErrKind: what is declared is a primitive's name, whatever declares it.
func TestPrimitivesDeclared(t *testing.T) {
	for _, text := range []string{
		"@var print = 1;", "@fn self() { }", "{ @var len = 1; }", "{ @fn kind() { } }", "@try { } catch rand { }", "{ @try { } catch cx { } }",
		"fn f(@re) { }", "fn f(a, @im, b) { }", "var f = fn (@yield) { };", "fn f(a) { fn () { @var now = a; }; }", "if true { } else { @var box = 1; }",
		"print(1); len(2); @var print = 1;", "print(1); @fn print() { }",
	} {
		wantFault(t, text, api.ErrKind)
	}
	for i := range api.Prims {
		wantFault(t, "@var "+PrimName(i)+" = 1;", api.ErrKind)
		wantFault(t, "@"+PrimName(i)+" = 1;", api.ErrKind)
	}
	wantTaken(t, "var Print = 1; var lens = 2; { var prints = 3; } fn f(le) { le = 1; }")
}

// P8.5: ErrKind: what is set is a primitive's name; what stands within a target is not set.
func TestPrimitivesSet(t *testing.T) {
	for _, text := range []string{"@len = 1;", "{ @print = 1; }", "fn f(a) { while a { @wait = a; } }", "@print = x;", "(@print) = x;", "@print = 1; var print = 1;", "fn f() { @print = 1; } var print = 2;"} {
		wantFault(t, text, api.ErrKind)
	}
	wantTaken(t, "len[0] = 1; print.x = 2; len[print] = self; x = print; var x = len;")
}

// P8.5: of a Set it is the Set's own place, which is the first of the two.
func TestPlaceOfSet(t *testing.T) {
	l := []api.Node{{Kind: api.NodeProg, N: 1}, {Kind: api.NodeSet, N: 2, At: 5}, {Kind: api.NodeName, Text: "print", At: 6}, {Kind: api.NodeNil, At: 7}}
	wantFaultOf(t, l, "print is set", api.ErrKind, 5)
}

// P8.5: ErrTwice: the same name in the same node.
func TestTwice(t *testing.T) {
	for _, text := range []string{
		"var a = 1; @var a = 2;", "var a = 1; @fn a() { }", "fn a() { } @var a = 1;", "fn a() { } @fn a() { }", "var a = 1; var b = 2; { var a = 3; } a; @var a = 4;",
		"{ var a = 1; @var a = 2; }", "{ var a = 1; @fn a() { } }", "{ fn a() { } @var a = 1; }", "{ fn a() { } @fn a() { } }", "{ var a = 1; { } if a { } @var a = a; }",
		"fn f(a, @a) { }", "fn f(a, b, @a) { }", "var f = fn (a, b, @b) { };", "fn f(a) { var b = 1; @var b = 2; }", "{ fn f(a, @a) { } }",
		"try { var a = 1; @var a = 1; } catch e { }", "try { } catch e { var a = 1; @var a = 1; }", "{ var a = 1; { var a = 2; } @var a = 3; }", "a; var a = 1; @var a = 2;",
	} {
		wantFault(t, text, api.ErrTwice)
	}
	for _, text := range []string{
		"var a = 1; { var a = 2; } { var a = 3; }", "fn f(a) { var a = 1; }", "fn f(f) { }", "{ fn f(f) { var f = 1; } }", "try { } catch e { var e = 1; }", "{ var e = 1; try { var e = 2; } catch e { var e = 3; } }", "fn f(a) { } fn g(a) { }", "var a = 1; try { } catch a { }", "if true { var a = 1; } else { var a = 2; }", "fn f(a) { return fn (a) { fn a() { } }; }",
	} {
		wantTaken(t, text)
	}
}

// P8.5: ErrNone: a Name means nothing there.
func TestMeansNothing(t *testing.T) {
	for _, text := range []string{
		"@x;", "print(@x);", "@x = 1;", "{ var a = @a; }", "{ @a; var a = 1; }", "{ var a = 1; } @a;", "{ @f(); fn f() { } }", "{ fn f() { @g; } fn g() { } }", "{ fn f() { } } @f;",
		"fn f(a) { } @a;", "fn f(a) { } fn g() { @a; }", "try { @e; } catch e { }", "try { } catch e { } @e;", "try { var a = 1; } catch e { @a; }", "if true { var a = 1; } else { @a; }", "if @a { var a = 1; }",
		"while @a { var a = 1; }", "{ var f = fn () { @f; }; }", "fn f() { return fn () { return @q; }; }", "x.y = [@y, x]; var x = 1;", "x.y = {z: @z}; var x = 1;", "spawn @g();", "throw @e;", "fn f() { var v = 1; } @v;", "{ var a = fn (b) { }; @b; }",
		"var b = (@a); { var a = 1; }", "@Print;", "(@x) = 1;",
	} {
		wantFault(t, text, api.ErrNone)
	}
}

// P8.5: ErrForm: a Break or Continue must be below a While's Block, of its own function.
func TestBreaks(t *testing.T) {
	for _, word := range []string{"break;", "continue;"} {
		for _, text := range []string{
			"@", "{ @ }", "fn f() { @ }", "if true { @ }", "while true { } @", "while true { fn f() { @ } }", "while true { var f = fn () { if true { @ } }; }", "while fn () { @ } { }", "while true { while fn () { @ } { } }",
			"try { @ } catch e { }", "fn f() { while true { } @ }", "while true { fn f() { while true { } @ } }", "{ while true { while true { } } @ }",
		} {
			wantFault(t, at(text, word), api.ErrForm)
		}
		for _, text := range []string{
			"while true { @ }", "while true { { if true { } else { @ } } }", "while true { try { @ } catch e { @ } }", "while true { while true { } @ }", "fn f() { while true { @ } }", "while true { fn f() { while true { @ } } @ }", "while fn () { while true { @ } } { @ }",
		} {
			wantTaken(t, without(text, word))
		}
	}
}

// P8.5: ErrForm: a Return that belongs to function 0.
func TestReturns(t *testing.T) {
	for _, text := range []string{"@return;", "@return x;", "{ @return 1; }", "while true { if true { @return; } }", "try { } catch e { @return e; }", "fn f() { } @return f;", "{ var g = fn () { return; }; @return g; }"} {
		wantFault(t, text, api.ErrForm)
	}
	wantTaken(t, "fn f() { return; } var g = fn () { while true { try { return fn () { return 1; }; } catch e { return e; } } };")
}

// P8.5: of several faults the first in the order of nodes.
func TestFirstFault(t *testing.T) {
	for _, c := range []struct {
		text string
		e    api.Errno
	}{
		{"@x; break;", api.ErrNone},
		{"@break; x;", api.ErrForm},
		{"var a = 1; @var a = x;", api.ErrTwice},
		{"@var len = x;", api.ErrKind},
		{"{ var a = @x; var a = 1; }", api.ErrNone},
		{"fn f(a, @a) { x; }", api.ErrTwice},
		{"fn f() { @x; } fn f() { }", api.ErrNone},
		{"fn f() { } @fn f(print) { x; }", api.ErrTwice},
		{"@fn len(a, a) { }", api.ErrKind},
		{"@try { x; } catch print { y; }", api.ErrKind},
		{"try { @x; } catch e { y; }", api.ErrNone},
		{"@print = fn () { break; };", api.ErrKind},
		{"x = fn () { @break; }; print = 1; var x = 1;", api.ErrForm},
		{"@return x;", api.ErrForm},
		{"while @x { break; } break;", api.ErrNone},
		{"fn f(@print, print) { }", api.ErrKind},
		{"@var print = 1; var print = 2;", api.ErrKind},
		{"if @x { y; }", api.ErrNone},
		{"[fn () { @continue; }, x];", api.ErrForm},
	} {
		wantFault(t, c.text, c.e)
	}
}

// P8.5: of one node: ErrKind, ErrTwice, ErrMany.
func TestErrorsOfOneNode(t *testing.T) {
	slots := "{ " + repeated("var v# = 1; ", 0, api.MaxSlots)
	wantFault(t, slots+"@var v0 = 1; }", api.ErrTwice)
	wantFault(t, slots+"@var len = 1; }", api.ErrKind)
	wantFault(t, slots+"@var w = 1; }", api.ErrMany)
	wantFault(t, slots+"@fn v255() { } }", api.ErrTwice)
	wantFault(t, slots+"@try { } catch print { } }", api.ErrKind)
	wantFault(t, slots+"@try { } catch v0 { } }", api.ErrMany)
	globals := repeated("var v# = 1; ", 0, api.MaxGlobals)
	wantFault(t, globals+"@var v0 = 1;", api.ErrTwice)
	wantFault(t, globals+"@fn v1023() { }", api.ErrTwice)
	wantFault(t, globals+"@fn self() { }", api.ErrKind)
	wantFault(t, globals+"@var w = 1;", api.ErrMany)
	funs := "{ fn f() { } " + repeated("fn () { }; ", 2, api.MaxFuns)
	wantFault(t, funs+"@fn f() { } }", api.ErrTwice)
	wantFault(t, funs+"@fn print() { } }", api.ErrKind)
	wantFault(t, funs+"@fn g() { } }", api.ErrMany)
}
