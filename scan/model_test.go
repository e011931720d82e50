package scan_test

import (
	"math/big"
	"math/rand"
	"slices"
	"strings"
	"testing"

	"touchmark/api"
	"touchmark/scan"
)

const (
	letters = "abcdefghijklmnopqrstuvwxyz"
	digits  = "0123456789"
	// The chapter's lists.
	chapterWords   = "select distinct from join left on where group by having order desc limit union all except as and or not null true false is in exists count sum min max create table view int text bool primary key insert into values delete update set commit abort"
	chapterSymbols = "( ) , . * + - / % = <> < <= > >="
)

func words() []string { return strings.Fields(chapterWords) }

func symbols() []string { return strings.Fields(chapterSymbols) }

// modelAll is P9.1, and P9.2 too: with an error, the tokens ahead of it are returned.
func modelAll(src string) ([]api.Token, api.Errno, int) {
	if len(src) > 4096 {
		return nil, api.ErrBytes, 4096
	}
	var l []api.Token
	for {
		left := strings.TrimLeft(src[end(l):], " \t\n\r")
		if left == "" {
			return l, api.OK, 0
		}
		x, e := modelToken(left)
		x.At = len(src) - len(left)
		if e != api.OK {
			return l, e, x.At
		}
		l = append(l, x)
	}
}

// end is the offset behind the last one of some tokens.
func end(l []api.Token) int {
	if len(l) == 0 {
		return 0
	}
	last := l[len(l)-1]
	return last.At + len(last.Text)
}

// modelToken is the chapter's steps 2 to 5.
func modelToken(s string) (api.Token, api.Errno) {
	switch first := s[:1]; {
	case strings.Contains(letters, first):
		return modelWord(leading(s, letters+digits))
	case strings.Contains(digits, first):
		return modelNumber(leading(s, digits))
	case first == "'":
		return modelText(s)
	}
	for _, n := range []int{2, 1} {
		if n <= len(s) && slices.Contains(symbols(), s[:n]) {
			return api.Token{Kind: api.TokSign, Text: s[:n]}, api.OK
		}
	}
	return api.Token{}, api.ErrSign
}

// leading is the longest beginning of s of some ASCII bytes.
func leading(s, of string) string {
	return s[:len(s)-len(strings.TrimLeft(s, of))]
}

func modelWord(s string) (api.Token, api.Errno) {
	switch {
	case len(s) > 16:
		return api.Token{}, api.ErrBytes
	case slices.Contains(words(), s):
		return api.Token{Kind: api.TokWord, Text: s}, api.OK
	}
	return api.Token{Kind: api.TokName, Text: s}, api.OK
}

func modelNumber(s string) (api.Token, api.Errno) {
	n, _ := new(big.Int).SetString(s, 10)
	most := new(big.Int).Lsh(big.NewInt(1), 63)
	switch {
	case n.String() != s || n.Cmp(most) > 0:
		return api.Token{}, api.ErrNumber
	case n.Cmp(most) == 0:
		n.Neg(n)
	}
	return api.Token{Kind: api.TokNumber, Text: s, N: n.Int64()}, api.OK
}

func modelText(s string) (api.Token, api.Errno) {
	means, left := "", s[1:]
	for {
		part, behind, closed := strings.Cut(left, "'")
		if !closed {
			return api.Token{}, api.ErrQuote
		}
		means += part
		var doubled bool
		if left, doubled = strings.CutPrefix(behind, "'"); !doubled {
			break
		}
		means += "'"
	}
	if len(means) > 64 {
		return api.Token{}, api.ErrBytes
	}
	return api.Token{Kind: api.TokText, Text: s[:len(s)-len(left)], S: means}, api.OK
}

// wantModel holds All and Tokens against the model.
func wantModel(t *testing.T, src string) {
	t.Helper()
	l, e, at := modelAll(src)
	if got := slices.Collect(scan.Tokens(src)); !slices.Equal(got, l) {
		t.Errorf("Tokens %.80q: %v, want %v", src, got, l)
	}
	if e != api.OK {
		l = nil
	}
	if got, gotE, gotAt := scan.All(src); !slices.Equal(got, l) || gotE != e || gotAt != at {
		t.Errorf("All %.80q: %v, %d, %d; want %v, %d, %d", src, got, gotE, gotAt, l, e, at)
	}
}

// P9.1, P9.2: all sources of at most two bytes.
func TestShortSources(t *testing.T) {
	wantModel(t, "")
	for a := range 256 {
		wantModel(t, string([]byte{byte(a)}))
		for b := range 256 {
			wantModel(t, string([]byte{byte(a), byte(b)}))
		}
	}
}

// P9.1, P9.2: all sources of at most five bytes of which each stands for a class.
func TestSourcesOfClasses(t *testing.T) {
	var all func(src string, n int)
	all = func(src string, n int) {
		wantModel(t, src)
		for _, b := range "z09'<>= ;" {
			if n > 0 {
				all(src+string(b), n-1)
			}
		}
	}
	all("", 5)
}

// pieces are parts of sources: tokens, errors, and what lies on the edge between them.
func pieces() []string {
	l := append(words(), symbols()...)
	l = append(l, " ", "\t", "\n", "\r", "  ", "\r\n", " ", " ", " ", " ", " ", " ")
	l = append(l, "a", "z", "a1", "z9z", "selects", "int4", "o", "aaaaaaaaaaaaaaaa", "a234567890123456")
	l = append(l, "0", "7", "10", "9223372036854775807", "9223372036854775808")
	l = append(l, "''", "'a'", "'it''s'", "''''", "'select'", "'\x00\xff\n'", "'"+strings.Repeat("a", 64)+"'", "'"+strings.Repeat("''", 64)+"'")
	return l
}

// wrongPieces are parts with which a source has an error, or may have one.
func wrongPieces() []string {
	return []string{";", "A", "_", "\x00", "\x0b", "\x0c", "\x80", "\xa0", "\xff", "é", "\"", "!=", "'", "'a", "00", "007", "9223372036854775809", "18446744073709551616", "aaaaaaaaaaaaaaaaa", "'" + strings.Repeat("b", 65) + "'"}
}

// P9.1, P9.2: sources that are put together by chance.
func TestSourcesByChance(t *testing.T) {
	chance := rand.New(rand.NewSource(1))
	right, wrong := pieces(), wrongPieces()
	for range 20000 {
		var src strings.Builder
		for range chance.Intn(40) {
			if chance.Intn(60) == 0 {
				src.WriteString(wrong[chance.Intn(len(wrong))])
			}
			src.WriteString(right[chance.Intn(len(right))])
			if chance.Intn(3) > 0 {
				src.WriteByte(' ')
			}
		}
		wantModel(t, src.String())
	}
}

// P9.1, P9.2: any bytes.
func TestAnyBytes(t *testing.T) {
	chance := rand.New(rand.NewSource(2))
	for range 20000 {
		src := make([]byte, chance.Intn(60))
		for i := range src {
			src[i] = byte(chance.Intn(256))
			if chance.Intn(4) > 0 {
				src[i] = " \n'''az09<=>.()-+*/%,"[chance.Intn(21)]
			}
		}
		wantModel(t, string(src))
	}
}

// P9.1, P9.2: sources of about MaxSource bytes.
func TestLongSources(t *testing.T) {
	chance := rand.New(rand.NewSource(3))
	l := pieces()
	for range 300 {
		var src strings.Builder
		for src.Len() < 4200 {
			src.WriteString(l[chance.Intn(len(l))] + " ")
		}
		wantModel(t, src.String()[:4080+chance.Intn(30)])
	}
}
