package scan

import (
	"strconv"
	"strings"

	"touchmark/api"
)

const quote = '\''

// The symbols; one that another one begins with stands behind it, so that the first that fits is the longest.
var signs = [...]string{"<>", "<=", "<", ">=", ">", "=", "(", ")", ",", ".", "*", "+", "-", "/", "%"}

// first returns the token with which a text begins, or the error at its first byte. The text is not empty and begins with no blank. The offset is left to the caller.
func first(src string) (api.Token, api.Errno) {
	switch b := src[0]; {
	case isLetter(b):
		return word(src)
	case isDigit(b):
		return number(src)
	case b == quote:
		return text(src)
	}
	return sign(src)
}

// token returns a token without a value. Its bytes are copied: a result shares no memory with an argument (R3).
func token(kind int, bytes string) api.Token {
	return api.Token{Kind: kind, Text: strings.Clone(bytes)}
}

// word returns the keyword or name with which a text begins.
func word(src string) (api.Token, api.Errno) {
	s := src[:run(src, isLetterOrDigit)]
	if len(s) > api.MaxName {
		return api.Token{}, api.ErrBytes
	}
	if Word(s) {
		return token(api.TokWord, s), api.OK
	}
	return token(api.TokName, s), api.OK
}

// number returns the number with which a text begins.
func number(src string) (api.Token, api.Errno) {
	s := src[:run(src, isDigit)]
	n, err := strconv.ParseUint(s, 10, 64)
	if err != nil || n > 1<<63 || len(s) > 1 && s[0] == '0' {
		return api.Token{}, api.ErrNumber
	}
	t := token(api.TokNumber, s)
	t.N = int64(n) // 2^63 wraps round to the minimum, as it has to
	return t, api.OK
}

// text returns the string with which a text begins.
func text(src string) (api.Token, api.Errno) {
	end, ok := closing(src)
	if !ok {
		return api.Token{}, api.ErrQuote
	}
	s := strings.ReplaceAll(src[1:end], "''", "'")
	if len(s) > api.MaxText {
		return api.Token{}, api.ErrBytes
	}
	t := token(api.TokText, src[:end+1])
	t.S = strings.Clone(s) // without quotes inside, s is a piece of src
	return t, api.OK
}

// closing returns the offset of the quote that ends the string with which a text begins, and whether there is one.
func closing(src string) (int, bool) {
	for i := 1; i < len(src); i++ {
		if src[i] != quote {
			continue
		}
		if i+1 == len(src) || src[i+1] != quote {
			return i, true
		}
		i++ // a doubled quote is a part of the string
	}
	return 0, false
}

// sign returns the symbol with which a text begins.
func sign(src string) (api.Token, api.Errno) {
	for _, s := range signs {
		if strings.HasPrefix(src, s) {
			return token(api.TokSign, s), api.OK
		}
	}
	return api.Token{}, api.ErrSign
}
