package lex

import "jacquard/api"

// signs stand longest first, so that the first that fits is as long as it can be.
var signs = [...]string{
	"==", "!=", "<=", ">=",
	"+", "-", "*", "/", "%", "<", ">", "=", "(", ")", "[", "]", "{", "}", ",", ";", ":", ".",
}

// begins: is there a token that begins with this byte?
func begins(c byte) bool {
	if isLetter(c) || isDigit(c) || c == '"' {
		return true
	}
	for _, sign := range signs {
		if sign[0] == c {
			return true
		}
	}
	return false
}

// cut tells the token that begins at a place, and the place behind it; or what is wrong with it, and where.
func cut(b []byte, at int) (api.Token, api.Errno, int) {
	switch c := b[at]; {
	case isLetter(c):
		return cutName(b, at)
	case isDigit(c):
		return cutNumber(b, at)
	case c == '"':
		return cutString(b, at)
	}
	return cutSign(b, at)
}

// cutName takes what has the form of a name: a word, too.
func cutName(b []byte, at int) (api.Token, api.Errno, int) {
	end := at
	for end < len(b) && (isLetter(b[end]) || isDigit(b[end])) {
		end++
	}
	text := string(b[at:end])
	kind := api.TokName
	if Word(text) {
		kind = api.TokWord
	}
	return api.Token{Kind: kind, Text: text, At: at}, api.OK, end
}

// cutNumber goes on behind what is too great: a fault of form comes ahead of that, wherever it stands.
func cutNumber(b []byte, at int) (api.Token, api.Errno, int) {
	n, tooGreat := 0, false
	end := at
	for end < len(b) && isDigit(b[end]) {
		if end > at && b[at] == '0' {
			return api.Token{}, api.ErrForm, end
		}
		digit := int(b[end] - '0')
		if n > (api.MaxInt-digit)/10 {
			tooGreat = true
		} else {
			n = 10*n + digit
		}
		end++
	}
	if end < len(b) && isLetter(b[end]) {
		return api.Token{}, api.ErrForm, end
	}
	if tooGreat {
		return api.Token{}, api.ErrRange, at
	}
	return api.Token{Kind: api.TokInt, Num: n, At: at}, api.OK, end
}

// cutString: a text that ends too early is at fault at its end.
func cutString(b []byte, at int) (api.Token, api.Errno, int) {
	var says []byte
	end := at + 1
	for end < len(b) {
		switch c := b[end]; c {
		case '"':
			return api.Token{Kind: api.TokStr, Text: string(says), At: at}, api.OK, end + 1
		case '\n':
			return api.Token{}, api.ErrForm, end
		case '\\':
			said, e, behind := cutEscape(b, end)
			if e != api.OK {
				return api.Token{}, e, behind
			}
			says = append(says, said)
			end = behind
		default:
			says = append(says, c)
			end++
		}
	}
	return api.Token{}, api.ErrForm, end
}

// cutEscape tells the byte that a \ and what is behind it stand for, and the place behind them.
func cutEscape(b []byte, at int) (byte, api.Errno, int) {
	at++
	if at == len(b) {
		return 0, api.ErrForm, at
	}
	switch c := b[at]; c {
	case '"', '\\':
		return c, api.OK, at + 1
	case 'n':
		return '\n', api.OK, at + 1
	case 't':
		return '\t', api.OK, at + 1
	case 'x':
		return cutHex(b, at+1)
	}
	return 0, api.ErrForm, at
}

// cutHex tells the byte that two hexadecimal digits stand for, and the place behind them.
func cutHex(b []byte, at int) (byte, api.Errno, int) {
	var said byte
	for range 2 {
		if at == len(b) {
			return 0, api.ErrForm, at
		}
		digit, ok := hexDigit(b[at])
		if !ok {
			return 0, api.ErrForm, at
		}
		said = said<<4 | digit
		at++
	}
	return said, api.OK, at
}

func hexDigit(c byte) (byte, bool) {
	switch {
	case c >= '0' && c <= '9':
		return c - '0', true
	case c >= 'a' && c <= 'f':
		return c - 'a' + 10, true
	case c >= 'A' && c <= 'F':
		return c - 'A' + 10, true
	}
	return 0, false
}

// cutSign: the one byte that begins a sign and is none by itself is a !, at fault behind it.
func cutSign(b []byte, at int) (api.Token, api.Errno, int) {
	for _, sign := range signs {
		end := at + len(sign)
		if end <= len(b) && string(b[at:end]) == sign {
			return api.Token{Kind: api.TokSign, Text: sign, At: at}, api.OK, end
		}
	}
	return api.Token{}, api.ErrForm, at + 1
}
