package lex

import (
	"strings"
	"testing"

	"jacquard/api"
)

// P5.3: numbers that are ill formed.
func TestFaultNumberForm(t *testing.T) {
	for _, c := range []struct {
		text string
		at   int
	}{
		{"00", 1}, {"01", 1}, {"09", 1}, {"000", 1}, {"0123", 1}, {"0a", 1}, {"0_", 1}, {"0x10", 1}, {"0Z", 1}, {"01a", 1},
		{"1a", 1}, {"1_", 1}, {"1Z", 1}, {"12z", 2}, {"1000A1", 4}, {"1e5", 1}, {"9_000", 1}, {"1a@", 1},
		{"  07", 3}, {"a 1b", 3}, {"-00", 2}, {"1.0.00", 5}, {"1 2 03", 5}, {"\n01", 2}, {"# 0\n01", 5}, {"1var", 1}, {"1if", 1},
	} {
		wantFault(t, c.text, api.ErrForm, c.at)
		wantFault(t, c.text+" @", api.ErrForm, c.at)
	}
	for c := range 256 {
		s := string([]byte{byte(c)})
		if isName := Name(s); isName {
			wantFault(t, "0"+s, api.ErrForm, 1)
			wantFault(t, "57"+s, api.ErrForm, 2)
		}
	}
}

// P5.3: numbers that are too great, at their first byte; ill formed, too, at that.
func TestFaultNumberRange(t *testing.T) {
	great := []string{"2305843009213693952", "2305843009213693953", "2305843009213693960", "2305843009213694000", "3000000000000000000",
		"9223372036854775807", "9223372036854775808", "9999999999999999999", "18446744073709551615", "18446744073709551616", "18446744073709551617",
		"23058430092136939510", "23058430092136939519", "36893488147419103232", "1" + strings.Repeat("0", 40), strings.Repeat("9", 30000)}
	for _, s := range great {
		wantFault(t, s, api.ErrRange, 0)
		wantFault(t, "x -"+s+";", api.ErrRange, 3)
		wantFault(t, s+" 07", api.ErrRange, 0)
		wantFault(t, s+"\n"+s, api.ErrRange, 0)
		wantFault(t, s+"@", api.ErrRange, 0)
		wantFault(t, s+"a", api.ErrForm, len(s))
		wantFault(t, s+"_", api.ErrForm, len(s))
		wantFault(t, " "+s+"Z9 !", api.ErrForm, len(s)+1)
		wantFault(t, "0"+s, api.ErrForm, 1)
		wantFault(t, "00"+s+"a", api.ErrForm, 1)
		wantFault(t, "07 "+s, api.ErrForm, 1)
	}
	wantTokens(t, "2305843009213693951", num(api.MaxInt, 0))
}

// P5.3: strings that are ill formed, and those that end too early.
func TestFaultString(t *testing.T) {
	for _, c := range []struct {
		text string
		at   int
	}{
		{"\"\n\"", 1}, {"\"a\n\"", 2}, {"\"ab\n", 3}, {"\"\r\n\"", 2}, {"a\"\n", 2}, {"\"\\n\n\"", 3},
		{`"\q"`, 2}, {`"a\N"`, 3}, {`"\ "`, 2}, {`"\r"`, 2}, {`"\0"`, 2}, {`"\u0041"`, 2}, {`"\X41"`, 2}, {`"\'"`, 2}, {"\"\\\n\"", 2}, {"\"\\\t\"", 2}, {"\"\\\xff\"", 2}, {"\"\\\x00\"", 2},
		{`"\xg0"`, 3}, {`"\x0g"`, 4}, {`"\x4"`, 4}, {`"\x"`, 3}, {`"\x-1"`, 3}, {`"\x 1"`, 3}, {`"\x1 "`, 4}, {`"\x\41"`, 3}, {"\"\\x\n\"", 3}, {"\"\\x4\n\"", 4}, {`"\xG"`, 3}, {`"\x4G"`, 4}, {`"\x4:"`, 4}, {`"\x/0"`, 3}, {`"\x@0"`, 3}, {"\"\\x`0\"", 3},
		{`"`, 1}, {`"a`, 2}, {`"abc`, 4}, {`"\`, 2}, {`"a\`, 3}, {`"\x`, 3}, {`"\x4`, 4}, {`"\x41`, 5}, {`"\"`, 3}, {`"\\`, 3}, {`"\\\"`, 5}, {`"\n`, 3}, {`x="`, 3}, {`"""`, 3}, {`"a" "`, 5}, {`"# a`, 4}, {"\"\xff", 2},
	} {
		wantFault(t, c.text, api.ErrForm, c.at)
		wantFault(t, " \n"+c.text, api.ErrForm, c.at+2)
	}
	wantFault(t, "\"a\nb\\q", api.ErrForm, 2)
	wantFault(t, "\"\\q\n", api.ErrForm, 2)
	wantFault(t, "\"\\q\" 07", api.ErrForm, 2)
	wantFault(t, `"`+strings.Repeat("a", api.MaxSource-1), api.ErrForm, api.MaxSource)
	for c := range 256 {
		s := string([]byte{byte(c)})
		if !strings.Contains(`"\ntx`, s) {
			wantFault(t, `"\`+s+`"`, api.ErrForm, 2)
		}
		if !strings.Contains("0123456789abcdefABCDEF", s) {
			wantFault(t, `"\x`+s+`0"`, api.ErrForm, 3)
			wantFault(t, `"\x0`+s+`"`, api.ErrForm, 4)
		}
	}
}

// P5.3: bytes with which no token begins, wherever they stand; and a ! by itself.
func TestFaultBeginning(t *testing.T) {
	const first = "abcdefghijklmnopqrstuvwxyzABCDEFGHIJKLMNOPQRSTUVWXYZ_0123456789\"+-*/%<>=!()[]{},;:. \t\n\r#"
	count := 0
	for c := range 256 {
		s := string([]byte{byte(c)})
		if strings.Contains(first, s) {
			continue
		}
		count++
		wantFault(t, s, api.ErrForm, 0)
		wantFault(t, "a"+s, api.ErrForm, 1)
		wantFault(t, "1"+s+"1", api.ErrForm, 1)
		wantFault(t, "= "+s, api.ErrForm, 2)
		wantFault(t, "\"\""+s+"=", api.ErrForm, 2)
		wantFault(t, "#"+s+"\n"+s+"07", api.ErrForm, 3)
		wantFault(t, "!"+s, api.ErrForm, 1)
	}
	if count != 256-len(first) {
		t.Error(count)
	}
	for c := range 256 {
		s := string([]byte{byte(c)})
		if s != "=" {
			wantFault(t, "!"+s, api.ErrForm, 1)
			wantFault(t, "a !"+s+"=", api.ErrForm, 3)
		}
	}
	wantFault(t, "!", api.ErrForm, 1)
	wantFault(t, "a != !", api.ErrForm, 6)
	wantFault(t, "!!=", api.ErrForm, 1)
	wantFault(t, "! =", api.ErrForm, 1)
	wantFault(t, "a @ 07", api.ErrForm, 2)
	wantFault(t, "a && b", api.ErrForm, 2)
}

// P5.3: MaxSource bytes, and one more, whatever they are.
func TestLexLong(t *testing.T) {
	for _, c := range []string{" ", "#", "\n", "a"} {
		l, e, at := Lex([]byte(strings.Repeat(c, api.MaxSource)))
		if e != api.OK || at != api.MaxSource || l[len(l)-1] != (api.Token{At: api.MaxSource}) {
			t.Errorf("%q: %d at %d", c, e, at)
		}
	}
	wantFault(t, strings.Repeat(" ", api.MaxSource-1)+"@", api.ErrForm, api.MaxSource-1)
	for _, c := range []string{" ", "a", "@", "1", "\"", "0", "!", "+", "\x00"} {
		wantFault(t, strings.Repeat(c, api.MaxSource+1), api.ErrLong, 0)
		wantFault(t, "07"+strings.Repeat(c, api.MaxSource), api.ErrLong, 0)
		wantFault(t, strings.Repeat(c, 3*api.MaxSource), api.ErrLong, 0)
	}
}

// P5.3: MaxTokens tokens, and one more, of each kind.
func TestLexMany(t *testing.T) {
	for _, piece := range []string{"+", "a ", "if ", "7 ", `""`, "==", "a+", "1(", "a#\n", "\"\\x41\""} {
		each := 1
		if piece == "a+" || piece == "1(" {
			each = 2
		}
		full := strings.Repeat(piece, api.MaxTokens/each)
		if len(full) > api.MaxSource {
			full = strings.Repeat("+", api.MaxTokens-1) + piece
		}
		l, e, at := Lex([]byte(full))
		if e != api.OK || at != len(full) || len(l) != api.MaxTokens+1 || l[api.MaxTokens] != (api.Token{At: len(full)}) {
			t.Errorf("%q: %d tokens, %d at %d", piece, len(l), e, at)
		}
		for _, behind := range []string{"", " ", "\n\t\r ", "# a"} {
			l, e, at := Lex([]byte(full + behind))
			if e != api.OK || at != len(full+behind) || len(l) != api.MaxTokens+1 {
				t.Errorf("%q and %q: %d tokens, %d at %d", piece, behind, len(l), e, at)
			}
		}
		for _, more := range []string{"a", "var", "0", `"x"`, "!=", "<", "a b c"} {
			wantFault(t, full+" "+more, api.ErrMany, len(full)+1)
			wantFault(t, full+"#\n "+more+" ", api.ErrMany, len(full)+3)
		}
	}
}

// P5.3: what is wrong ahead of the bound, in the token beyond it, and behind that.
func TestLexManyAndFaults(t *testing.T) {
	signs := strings.Repeat("+", api.MaxTokens)
	n := api.MaxTokens
	for _, wrong := range []string{"07", "1a", "9999999999999999999", "9999999999999999999a", "\"\n", `"\q"`, `"`, `"\`, "!", "!a"} {
		wantFault(t, signs+wrong, api.ErrMany, n)
		wantFault(t, signs+" "+wrong, api.ErrMany, n+1)
		wantFault(t, signs+"+"+wrong, api.ErrMany, n)
		wantFault(t, signs+"+ "+wrong, api.ErrMany, n)
	}
	wantFault(t, signs+"+@", api.ErrMany, n)
	wantFault(t, signs+"@", api.ErrForm, n)
	wantFault(t, signs+" \x00+", api.ErrForm, n+1)
	wantFault(t, signs[1:]+"07", api.ErrForm, n)
	wantFault(t, signs[1:]+"9999999999999999999 +", api.ErrRange, n-1)
	wantFault(t, signs[1:]+"! +", api.ErrForm, n)
	wantFault(t, "@"+signs+"+", api.ErrForm, 0)
	wantFault(t, "07"+signs+"+", api.ErrForm, 1)
	wantFault(t, "\"\n\""+signs+"+", api.ErrForm, 1)
	wantFault(t, "9999999999999999999"+signs+"+", api.ErrRange, 0)
	wantFault(t, signs[:n/2]+"@"+signs, api.ErrForm, n/2)
}
