package lex

import (
	"fmt"
	"math/big"
	"math/rand"
	"regexp"
	"slices"
	"strings"
	"testing"
	"unicode/utf8"

	"jacquard/api"
)

// The model goes by patterns over texts in which each byte is a rune.
var (
	gapForm    = regexp.MustCompile(`^(?:[\x20\x09\x0a\x0d]|#[^\x0a]*)*`)
	nameForm   = regexp.MustCompile(`^[A-Za-z_][A-Za-z_0-9]*`)
	wordForm   = regexp.MustCompile(`^(?:var|fn|if|else|while|break|continue|return|throw|try|catch|spawn|true|false|nil|and|or|not)$`)
	intForm    = regexp.MustCompile(`^(?:0|[1-9][0-9]*)`)
	intBehind  = regexp.MustCompile(`^[A-Za-z_0-9]`)
	strForm    = regexp.MustCompile(`^"(?:[^\x0a"\\]|\\["\\nt]|\\x[0-9A-Fa-f]{2})*"`)
	strBegun   = regexp.MustCompile(`^"(?:[^\x0a"\\]|\\["\\nt]|\\x[0-9A-Fa-f]{2})*(?:\\(?:x[0-9A-Fa-f]?)?)?`)
	strPiece   = regexp.MustCompile(`\\x[0-9A-Fa-f]{2}|\\.|[^\\]`)
	signForm   = regexp.MustCompile(`^(?:[=!<>]=|[-+*/%<>=()\[\]{},;:.])`)
	maxInt, _  = new(big.Int).SetString("2305843009213693951", 10)
	plainSigns = map[string]string{`\n`: "\n", `\t`: "\t", `\"`: `"`, `\\`: `\`}
)

func latin(b []byte) string {
	var s strings.Builder
	for _, c := range b {
		s.WriteRune(rune(c))
	}
	return s.String()
}

func unlatin(s string) string {
	var b []byte
	for _, r := range s {
		b = append(b, byte(r))
	}
	return string(b)
}

// says is what is between a string's quotes, read.
func says(inner string) string {
	return unlatin(strPiece.ReplaceAllStringFunc(inner, func(piece string) string {
		if strings.HasPrefix(piece, `\x`) {
			var c int
			fmt.Sscanf(piece[2:], "%x", &c)
			return string(rune(c))
		}
		if said, ok := plainSigns[piece]; ok {
			return said
		}
		return piece
	}))
}

// modelToken is the token that a text begins with, and how long it is; or a fault, and how far behind it is.
func modelToken(s string) (t api.Token, e api.Errno, n int) {
	if m := nameForm.FindString(s); m != "" {
		if wordForm.MatchString(m) {
			return word(m, 0), api.OK, len(m)
		}
		return name(m, 0), api.OK, len(m)
	}
	if m := intForm.FindString(s); m != "" {
		if intBehind.MatchString(s[len(m):]) {
			return t, api.ErrForm, len(m)
		}
		v, _ := new(big.Int).SetString(m, 10)
		if v.Cmp(maxInt) > 0 {
			return t, api.ErrRange, 0
		}
		return num(int(v.Int64()), 0), api.OK, len(m)
	}
	if m := strForm.FindString(s); m != "" {
		return str(says(m[1:len(m)-1]), 0), api.OK, utf8.RuneCountInString(m)
	}
	if m := strBegun.FindString(s); m != "" {
		return t, api.ErrForm, utf8.RuneCountInString(m)
	}
	if m := signForm.FindString(s); m != "" {
		return sign(m, 0), api.OK, len(m)
	}
	if strings.HasPrefix(s, "!") {
		return t, api.ErrForm, 1
	}
	return t, api.ErrForm, 0
}

// model is Lex for texts within both bounds.
func model(b []byte) (l []api.Token, e api.Errno, at int) {
	for s := latin(b); ; {
		gap := gapForm.FindString(s)
		at += utf8.RuneCountInString(gap)
		s = s[len(gap):]
		if s == "" {
			return append(l, api.Token{At: at}), api.OK, at
		}
		t, e, n := modelToken(s)
		if e != api.OK {
			return nil, e, at + n
		}
		t.At = at
		l = append(l, t)
		s = string([]rune(s)[n:])
		at += n
	}
}

func holdAgainstModel(t *testing.T, b []byte) {
	t.Helper()
	got, gotE, gotAt := Lex(b)
	want, e, at := model(b)
	if gotE != e || gotAt != at || !slices.Equal(got, want) {
		t.Fatalf("%q: %v, %d at %d, not %v, %d at %d", b, got, gotE, gotAt, want, e, at)
	}
}

// P5.2, P5.3: every short text of some bytes.
func TestEveryShortText(t *testing.T) {
	for _, c := range []struct {
		bytes string
		most  int
	}{
		{"\"\\xn4Fg\n", 5},
		{"01a_ .", 5},
		{"=!<>-#\n ", 5},
		{"a0\"#\n=!\xff\\x", 4},
	} {
		level := [][]byte{{}}
		for range c.most {
			var next [][]byte
			for _, b := range level {
				holdAgainstModel(t, b)
				for i := range len(c.bytes) {
					next = append(next, append(slices.Clone(b), c.bytes[i]))
				}
			}
			level = next
		}
		for _, b := range level {
			holdAgainstModel(t, b)
		}
	}
	for x := range 256 {
		for y := range 256 {
			holdAgainstModel(t, []byte{byte(x), byte(y)})
		}
	}
}

// drawText is made of pieces that go together, rightly or not.
func drawText(draw *rand.Rand) []byte {
	pieces := []string{"a", "B_", "var", "or", "no", "t", "0", "1", "2305843009213693951", "2305843009213693952", "99999999999999999999",
		"\"", "\"a\"", `"\x4`, "f", "\\", `\\`, `\"`, "\\n", "\n", " ", "\t", "\r", "#", "# a\n", "=", "!", "<", ">", "-", "(", "]", ".", "\xc3", "@", "\x00"}
	var b []byte
	for range draw.Intn(12) {
		b = append(b, pieces[draw.Intn(len(pieces))]...)
	}
	return b
}

// P5.2, P5.3: texts that are drawn.
func TestDrawnTexts(t *testing.T) {
	draw := rand.New(rand.NewSource(5))
	for range 60000 {
		holdAgainstModel(t, drawText(draw))
	}
}

// written is a token's text; a string's bytes in any of the ways that there are.
func written(draw *rand.Rand, k api.Token) string {
	switch k.Kind {
	case api.TokInt:
		return fmt.Sprint(k.Num)
	case api.TokStr:
		text := `"`
		for i := range len(k.Text) {
			c := k.Text[i]
			ways := []string{fmt.Sprintf("\\x%02x", c), fmt.Sprintf("\\x%02X", c)}
			switch c {
			case '\n':
				ways = append(ways, `\n`)
			case '\t':
				ways = append(ways, `\t`, "\t")
			case '"', '\\':
				ways = append(ways, `\`+string(rune(c)))
			default:
				ways = append(ways, string([]byte{c}))
			}
			text += ways[draw.Intn(len(ways))]
		}
		return text + `"`
	}
	return k.Text
}

func drawToken(draw *rand.Rand) api.Token {
	switch draw.Intn(5) {
	case 0:
		return name([]string{"a", "_", "x1", "Var", "nott", "a_b"}[draw.Intn(6)], 0)
	case 1:
		return word(allWords[draw.Intn(len(allWords))], 0)
	case 2:
		return num([]int{0, 1, 10, 907, api.MaxInt}[draw.Intn(5)], 0)
	case 3:
		says := make([]byte, draw.Intn(4))
		for i := range says {
			says[i] = []byte("a\"\\\n\t# \x00\xff")[draw.Intn(9)]
		}
		return str(string(says), 0)
	}
	return sign(allSigns[draw.Intn(len(allSigns))], 0)
}

// P5.4: tokens with blanks between them are cut into the same tokens.
func TestTokensWithBlanks(t *testing.T) {
	draw := rand.New(rand.NewSource(54))
	gaps := []string{" ", "\t", "\n", "\r", "\r\n", "  ", "#\n", " # 07 \"!\n"}
	for range 5000 {
		var want []api.Token
		text := ""
		for range draw.Intn(12) {
			k := drawToken(draw)
			k.At = len(text)
			want = append(want, k)
			text += written(draw, k) + gaps[draw.Intn(len(gaps))]
		}
		wantTokens(t, text, want...)
	}
}

// P5.4: what is cut, written out again with blanks, is cut alike.
func TestCutAgain(t *testing.T) {
	draw := rand.New(rand.NewSource(55))
	cuts := 0
	for range 30000 {
		l, e, _ := Lex(drawText(draw))
		if e != api.OK {
			continue
		}
		cuts++
		text := ""
		for i := range l[:len(l)-1] {
			l[i].At = len(text)
			text += written(draw, l[i]) + " "
		}
		wantTokens(t, text, l[:len(l)-1]...)
	}
	if cuts < 1000 {
		t.Error(cuts)
	}
}

// P5.4: a first part that ends with a 0a and has no fault, and any rest.
func TestTwoParts(t *testing.T) {
	draw := rand.New(rand.NewSource(56))
	cuts, faults := 0, 0
	for range 60000 {
		one, two := append(drawText(draw), '\n'), drawText(draw)
		first, e, _ := Lex(one)
		if e != api.OK {
			continue
		}
		cuts++
		rest, wantE, wantAt := Lex(two)
		want := first[:len(first)-1]
		for _, k := range rest {
			k.At += len(one)
			want = append(want, k)
		}
		if wantE != api.OK {
			faults++
			want = nil
		}
		got, e, at := Lex(append(slices.Clone(one), two...))
		if e != wantE || at != wantAt+len(one) || !slices.Equal(got, want) {
			t.Fatalf("%q and %q: %v, %d at %d, not %v", one, two, got, e, at, want)
		}
	}
	if cuts < 1000 || faults < 1000 {
		t.Error(cuts, faults)
	}
}
