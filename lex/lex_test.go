package lex

import (
	"bytes"
	"fmt"
	"slices"
	"strings"
	"testing"

	"jacquard/api"
)

var allWords = strings.Fields("var fn if else while break continue return throw try catch spawn true false nil and or not")

var allSigns = strings.Fields("== != <= >= + - * / % < > = ( ) [ ] { } , ; : .")

func name(s string, at int) api.Token { return api.Token{Kind: api.TokName, Text: s, At: at} }
func word(s string, at int) api.Token { return api.Token{Kind: api.TokWord, Text: s, At: at} }
func num(n, at int) api.Token         { return api.Token{Kind: api.TokInt, Num: n, At: at} }
func str(s string, at int) api.Token  { return api.Token{Kind: api.TokStr, Text: s, At: at} }
func sign(s string, at int) api.Token { return api.Token{Kind: api.TokSign, Text: s, At: at} }

// wantTokens holds what a text is cut into against its tokens, the end left out.
func wantTokens(t *testing.T, text string, want ...api.Token) {
	t.Helper()
	want = append(slices.Clone(want), api.Token{Kind: api.TokEnd, At: len(text)})
	got, e, at := Lex([]byte(text))
	if e != api.OK || at != len(text) || !slices.Equal(got, want) {
		t.Errorf("%.99q: %.999v, %d at %d, not %.999v", text, got, e, at, want)
	}
}

// wantFault: no token beside it.
func wantFault(t *testing.T, text string, e api.Errno, at int) {
	t.Helper()
	l, gotE, gotAt := Lex([]byte(text))
	if gotE != e || gotAt != at || len(l) != 0 {
		t.Errorf("%.99q: %d tokens, %d at %d, not %d at %d", text, len(l), gotE, gotAt, e, at)
	}
}

// P5.1: all words, and what is near them.
func TestWord(t *testing.T) {
	if len(allWords) != 18 {
		t.Fatal(len(allWords))
	}
	for _, w := range allWords {
		if !Word(w) {
			t.Errorf("%q is a word", w)
		}
		near := []string{strings.ToUpper(w), strings.ToUpper(w[:1]) + w[1:], w + " ", " " + w, w + "_", "_" + w, w + "0", w + w, w + "\x00", w + "\n"}
		for _, s := range near {
			if Word(s) {
				t.Errorf("%q is no word", s)
			}
		}
		for n := range len(w) {
			if Word(w[:n]) {
				t.Errorf("%q is no word", w[:n])
			}
		}
	}
	for _, s := range []string{"", "print", "let", "function", "for", "do", "end", "null", "x", "_", "0", "==", "va r", "varfn", "elseif", "lock", "\xff"} {
		if Word(s) {
			t.Errorf("%q is no word", s)
		}
	}
}

// P5.1: written out.
func TestName(t *testing.T) {
	for _, s := range []string{"a", "z", "A", "Z", "_", "__", "_0", "a0", "x9", "_x9", "aZ_09", "Var", "VAR", "vars", "_var", "var_", "var0", "print", "nOt", "e", strings.Repeat("q", 100000)} {
		if !Name(s) {
			t.Errorf("%.20q is a name", s)
		}
	}
	for _, s := range []string{"", "0", "9x", "0_", "a b", " a", "a ", "a\n", "a-b", "a.b", "a\x00", "\x00", "\xc3\xa4", "a\xc3\xa4", "a\xff", "$a", "a$", "a'", "\u017f", "\u212a", "a\u0660", strings.Repeat("q", 100000) + "!"} {
		if Name(s) {
			t.Errorf("%.20q is no name", s)
		}
	}
	for _, w := range allWords {
		if Name(w) {
			t.Errorf("%q is a word, no name", w)
		}
	}
}

// P5.1: each byte, first and behind.
func TestNameEveryByte(t *testing.T) {
	const first = "abcdefghijklmnopqrstuvwxyzABCDEFGHIJKLMNOPQRSTUVWXYZ_"
	for c := range 256 {
		s := string([]byte{byte(c)})
		if want := strings.Contains(first, s); Name(s) != want || Name(s+"1") != want {
			t.Errorf("%q first: not %v", s, want)
		}
		if want := strings.Contains(first+"0123456789", s); Name("q"+s) != want || Name("_"+s+"Q") != want {
			t.Errorf("%q behind: not %v", s, want)
		}
	}
}

// P5.2, P5.3: the chapter's examples.
func TestLexExamples(t *testing.T) {
	wantFault(t, "x1 = 07", api.ErrForm, 6)
	wantTokens(t, "a<=b", name("a", 0), sign("<=", 1), name("b", 3))
	wantTokens(t, `"a\x41"`, str("aA", 0))
}

// P5.2: a whole program.
func TestLexProgram(t *testing.T) {
	wantTokens(t, "fn f(n) {\n\treturn n*2+k; # twice\n}\r\nprint(f(21), \"\\n\");",
		word("fn", 0), name("f", 3), sign("(", 4), name("n", 5), sign(")", 6), sign("{", 8),
		word("return", 11), name("n", 18), sign("*", 19), num(2, 20), sign("+", 21), name("k", 22), sign(";", 23),
		sign("}", 33), name("print", 36), sign("(", 41), name("f", 42), sign("(", 43), num(21, 44), sign(")", 46), sign(",", 47),
		str("\n", 49), sign(")", 53), sign(";", 54))
}

// P5.2: nothing but blanks and remarks.
func TestLexNothing(t *testing.T) {
	for _, s := range []string{"", " ", "\t", "\n", "\r", " \t\n\r", "#", "# ", "#\n", "##\n#", "# \"1 var\n", "#a", "#\n#\n", "# 07 1a ! @ \"\xff\x00\r\t", "\n\n#!\n"} {
		wantTokens(t, s)
	}
	if l, e, at := Lex(nil); e != api.OK || at != 0 || !slices.Equal(l, []api.Token{{}}) {
		t.Error(l, e, at)
	}
}

// P5.2: blanks and remarks part tokens; every other byte that stands by itself does not.
func TestLexBlanks(t *testing.T) {
	for _, gap := range []string{" ", "\t", "\n", "\r", "  ", "\r\n", "#\n", "# a 1 \"\n", " #\r\n\t"} {
		n := len(gap)
		wantTokens(t, "a"+gap+"b", name("a", 0), name("b", n+1))
		wantTokens(t, gap+"a"+gap+"1"+gap, name("a", n), num(1, 2*n+1))
		wantTokens(t, "="+gap+"=", sign("=", 0), sign("=", n+1))
		wantTokens(t, "1"+gap+"x", num(1, 0), name("x", n+1))
		wantTokens(t, "0"+gap+"0", num(0, 0), num(0, n+1))
		wantTokens(t, "fn"+gap+"x", word("fn", 0), name("x", n+2))
	}
	for _, gap := range []string{"\v", "\f", "\x00", "\x85", "\xa0", "\x1c", "\xe2\x80\xa8", "\xc2\xa0", "\xef\xbb\xbf"} {
		wantFault(t, "a"+gap+"b", api.ErrForm, 1)
		wantFault(t, gap+"b", api.ErrForm, 0)
	}
	wantTokens(t, "a#b\rc\nd", name("a", 0), name("d", 6))
	wantTokens(t, "a#", name("a", 0))
	wantTokens(t, "a # b", name("a", 0))
}

// P5.2: words, names, and what is neither by a letter.
func TestLexNames(t *testing.T) {
	for _, w := range allWords {
		wantTokens(t, w, word(w, 0))
		wantTokens(t, w+"s", name(w+"s", 0))
		wantTokens(t, "_"+w, name("_"+w, 0))
		wantTokens(t, w+"0", name(w+"0", 0))
		wantTokens(t, strings.ToUpper(w), name(strings.ToUpper(w), 0))
		wantTokens(t, w+"("+w+"."+w, word(w, 0), sign("(", len(w)), word(w, len(w)+1), sign(".", 2*len(w)+1), word(w, 2*len(w)+2))
	}
	wantTokens(t, "_ __ a1b_2 Zz9 e10", name("_", 0), name("__", 2), name("a1b_2", 5), name("Zz9", 11), name("e10", 15))
	wantTokens(t, `a"b"c`, name("a", 0), str("b", 1), name("c", 4))
	long := strings.Repeat("x", api.MaxSource)
	wantTokens(t, long, name(long, 0))
}

// P5.2: numbers, up to the greatest.
func TestLexNumbers(t *testing.T) {
	for _, n := range []int{0, 1, 9, 10, 99, 100, 1 << 31, 1 << 32, 1<<53 + 1, 1000000000000000000, 1999999999999999999, 2305843009213693949, 2305843009213693950, api.MaxInt} {
		text := fmt.Sprint(n)
		wantTokens(t, text, num(n, 0))
		wantTokens(t, "-"+text+".", sign("-", 0), num(n, 1), sign(".", 1+len(text)))
		wantTokens(t, text+`""`+text, num(n, 0), str("", len(text)), num(n, len(text)+2))
	}
	wantTokens(t, "0.0 1-2", num(0, 0), sign(".", 1), num(0, 2), num(1, 4), sign("-", 5), num(2, 6))
	wantTokens(t, "0#", num(0, 0))
	wantTokens(t, "10 20", num(10, 0), num(20, 3))
	wantTokens(t, "-2305843009213693951", sign("-", 0), num(api.MaxInt, 1))
}

// P5.2: every way to write every byte.
func TestLexStringBytes(t *testing.T) {
	for c := range 256 {
		says := string([]byte{byte(c)})
		for _, form := range []string{"%02x", "%02X"} {
			text := `"\x` + fmt.Sprintf(form, c) + `"`
			wantTokens(t, text, str(says, 0))
		}
		switch c {
		case '\n':
			wantFault(t, `"`+says+`"`, api.ErrForm, 1)
		case '"':
			wantFault(t, `"`+says+`"`, api.ErrForm, 3)
		case '\\':
			wantFault(t, `"`+says+`"`, api.ErrForm, 3)
		default:
			wantTokens(t, `"`+says+`"`, str(says, 0))
			wantTokens(t, `"a`+says+says+`b"`, str("a"+says+says+"b", 0))
		}
	}
	wantTokens(t, `"\x4a\x4A\xaF\xFa"`, str("JJ\xaf\xfa", 0))
}

// P5.2: strings, written out.
func TestLexStrings(t *testing.T) {
	for _, c := range []struct{ text, says string }{
		{`""`, ""},
		{`"a"`, "a"},
		{`"\""`, `"`},
		{`"\\"`, `\`},
		{`"\n"`, "\n"},
		{`"\t"`, "\t"},
		{`"\x00\xff"`, "\x00\xff"},
		{`"\\n\\"`, `\n\`},
		{`"\x411\\x41"`, `A1\x41`},
		{`"\\\""`, `\"`},
		{`"\"\"\""`, `"""`},
		{`"# no remark"`, "# no remark"},
		{"\" \t\r\x00\v\"", " \t\r\x00\v"},
		{"\"\xc3\xa4\xff\"", "\xc3\xa4\xff"},
		{`"!@$'` + "`" + `"`, "!@$'`"},
		{`"a\n\tb"`, "a\n\tb"},
		{`"var"`, "var"},
		{`"07"`, "07"},
	} {
		wantTokens(t, c.text, str(c.says, 0))
		wantTokens(t, "s="+c.text+";", name("s", 0), sign("=", 1), str(c.says, 2), sign(";", 2+len(c.text)))
	}
	wantTokens(t, `"""a""\""`, str("", 0), str("a", 2), str(`"`, 5))
	long := strings.Repeat("q", api.MaxSource-2)
	wantTokens(t, `"`+long+`"`, str(long, 0))
}

// P5.2: every sign, and every two of them behind each other.
func TestLexSigns(t *testing.T) {
	if len(allSigns) != 22 {
		t.Fatal(len(allSigns))
	}
	for _, s := range allSigns {
		wantTokens(t, s, sign(s, 0))
		wantTokens(t, "a"+s+"1", name("a", 0), sign(s, 1), num(1, 1+len(s)))
		wantTokens(t, s+`"x"`+s, sign(s, 0), str("x", len(s)), sign(s, len(s)+3))
		for _, u := range allSigns {
			joined := s + u
			if slices.Contains([]string{"==", "<=", ">="}, joined) {
				wantTokens(t, joined, sign(joined, 0))
			} else if slices.Contains([]string{"===", "<==", ">=="}, joined) {
				wantTokens(t, joined, sign(joined[:2], 0), sign("=", 2))
			} else {
				wantTokens(t, joined, sign(s, 0), sign(u, len(s)))
			}
			wantTokens(t, s+" "+u, sign(s, 0), sign(u, len(s)+1))
		}
	}
	wantTokens(t, "====", sign("==", 0), sign("==", 2))
	wantTokens(t, "===", sign("==", 0), sign("=", 2))
	wantTokens(t, "<==", sign("<=", 0), sign("=", 2))
	wantTokens(t, "=<>", sign("=", 0), sign("<", 1), sign(">", 2))
	wantTokens(t, "!==", sign("!=", 0), sign("=", 2))
	wantTokens(t, "=!=", sign("=", 0), sign("!=", 1))
}

// P5.3: a text is neither changed nor kept, and an answer is new.
func TestLexMemory(t *testing.T) {
	const text = "var ab=\"c\\x64\";# e\n12"
	b := append(make([]byte, 0, 99), text...)
	whole := b[:cap(b)]
	kept := bytes.Clone(whole)
	one, _, _ := Lex(b)
	two, _, _ := Lex(b)
	if !bytes.Equal(whole, kept) {
		t.Errorf("%q has become %q", kept, whole)
	}
	first := slices.Clone(one)
	for i := range whole {
		whole[i] = 'z'
	}
	for i := range two[:cap(two)] {
		two[:cap(two)][i] = api.Token{Kind: 9, Text: "z", Num: 9, At: 9}
	}
	if !slices.Equal(one, first) {
		t.Errorf("%v has become %v", first, one)
	}
	for _, wrong := range []string{"a 07", "\"\\q", "!", "9999999999999999999", "\x00"} {
		b := append(make([]byte, 0, 40), wrong...)
		whole := b[:cap(b)]
		kept := bytes.Clone(whole)
		Lex(b)
		if !bytes.Equal(whole, kept) {
			t.Errorf("%q has become %q", kept, whole)
		}
	}
	if three, _, _ := Lex([]byte(text)); !slices.Equal(three, first) {
		t.Errorf("not %v again, but %v", first, three)
	}
}
