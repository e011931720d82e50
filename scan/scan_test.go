package scan_test

import (
	"go/parser"
	"go/token"
	"math"
	"path/filepath"
	"slices"
	"strings"
	"testing"

	"touchmark/api"
	"touchmark/scan"
)

func name(at int, s string) api.Token { return api.Token{Kind: api.TokName, At: at, Text: s} }

func word(at int, s string) api.Token { return api.Token{Kind: api.TokWord, At: at, Text: s} }

func sign(at int, s string) api.Token { return api.Token{Kind: api.TokSign, At: at, Text: s} }

func number(at int, s string, n int64) api.Token {
	return api.Token{Kind: api.TokNumber, At: at, Text: s, N: n}
}

func text(at int, s, means string) api.Token {
	return api.Token{Kind: api.TokText, At: at, Text: s, S: means}
}

func wantTokens(t *testing.T, src string, want ...api.Token) {
	t.Helper()
	l, e, at := scan.All(src)
	if e != api.OK || at != 0 || !slices.Equal(l, want) {
		t.Errorf("All %.80q: %v, %d, %d; want %v", src, l, e, at, want)
	}
	if l := slices.Collect(scan.Tokens(src)); !slices.Equal(l, want) {
		t.Errorf("Tokens %.80q: %v, want %v", src, l, want)
	}
}

// wantError is for a source with an error behind some tokens, which Tokens yields and All leaves out.
func wantError(t *testing.T, src string, e api.Errno, at int, ahead ...api.Token) {
	t.Helper()
	if l, gotE, gotAt := scan.All(src); gotE != e || gotAt != at || len(l) != 0 {
		t.Errorf("All %.80q: %v, %d, %d; want %d, %d", src, l, gotE, gotAt, e, at)
	}
	if l := slices.Collect(scan.Tokens(src)); !slices.Equal(l, ahead) {
		t.Errorf("Tokens %.80q: %v, want %v", src, l, ahead)
	}
}

// P9.1: the chapter's examples.
func TestExamples(t *testing.T) {
	wantTokens(t, "select a<>'it''s'", word(0, "select"), name(7, "a"), sign(8, "<>"), text(10, "'it''s'", "it's"))
	wantError(t, "x = 007", api.ErrNumber, 4, name(0, "x"), sign(2, "="))
	wantTokens(t, "9223372036854775808", number(0, "9223372036854775808", math.MinInt64))
	wantError(t, "9223372036854775809", api.ErrNumber, 0)
	wantError(t, "'a", api.ErrQuote, 0)
	wantError(t, "'a''", api.ErrQuote, 0)
	wantTokens(t, "''", text(0, "''", ""))
	wantError(t, ";", api.ErrSign, 0)
	wantError(t, "X", api.ErrSign, 0)
	wantTokens(t, "")
	wantError(t, strings.Repeat("a", 17), api.ErrBytes, 0)
}

// P9.1: step 1. A byte that is no blank, though other languages skip it, is an error.
func TestBlanks(t *testing.T) {
	for _, b := range []string{" ", "\t", "\n", "\r", "\r\n", " \t\n\r", "\r\n\t  \r"} {
		n := len(b)
		wantTokens(t, b)
		wantTokens(t, b+"a", name(n, "a"))
		wantTokens(t, "a"+b, name(0, "a"))
		wantTokens(t, b+b+"a"+b+"b"+b, name(2*n, "a"), name(3*n+1, "b"))
		wantTokens(t, "<"+b+">", sign(0, "<"), sign(1+n, ">"))
		wantTokens(t, "sel"+b+"ect", name(0, "sel"), name(3+n, "ect"))
		wantTokens(t, "1"+b+"2", number(0, "1", 1), number(1+n, "2", 2))
		wantTokens(t, "'a'"+b+"'b'", text(0, "'a'", "a"), text(3+n, "'b'", "b"))
		wantTokens(t, "'"+b+"'", text(0, "'"+b+"'", b))
		wantError(t, b+"a"+b+";"+b, api.ErrSign, 2*n+1, name(n, "a"))
	}
	for _, s := range []string{"\x00", "\x08", "\x0b", "\x0c", "\x0e", "\x1f", "\x7f", "\x85", "\xa0", "\u00a0", "\u2028", "\ufeff"} {
		wantError(t, "a "+s+" b", api.ErrSign, 2, name(0, "a"))
	}
}

// P9.1: step 2.
func TestWordsAndNames(t *testing.T) {
	for _, s := range words() {
		wantTokens(t, s, word(0, s))
		wantTokens(t, s+" "+s, word(0, s), word(len(s)+1, s))
		wantTokens(t, s+"1", name(0, s+"1"))
		wantTokens(t, "a"+s, name(0, "a"+s))
		wantTokens(t, s+"("+s, word(0, s), sign(len(s), "("), word(len(s)+1, s))
	}
	for _, s := range []string{"a", "z", "a0", "z9", "a1b2", "sel", "selec", "selects", "o", "i", "int4", "text1", "abcdefghijklmnop", "qrstuvwxyz", "a234567890123456", "zzzzzzzzzzzzzzzz", "a000000000000000"} {
		wantTokens(t, s, name(0, s))
	}
	for _, s := range []string{"abcdefghijklmnopq", "a2345678901234567", "selectselectselect", "distinctdistinct1", "distinctdistinctdistinct", strings.Repeat("z", 4096), "a" + strings.Repeat("0", 200)} {
		wantError(t, s, api.ErrBytes, 0)
		wantError(t, (" a " + s)[:min(3+len(s), 4096)], api.ErrBytes, 3, name(1, "a"))
	}
	wantTokens(t, "a.b", name(0, "a"), sign(1, "."), name(2, "b"))
	wantError(t, "aB", api.ErrSign, 1, name(0, "a"))
	wantError(t, "Select", api.ErrSign, 0)
	wantError(t, "a_b", api.ErrSign, 1, name(0, "a"))
	wantError(t, "aé", api.ErrSign, 1, name(0, "a"))
}

// P9.1: step 3. The values on both sides of each power of two at which numbers of other sizes end.
func TestNumbers(t *testing.T) {
	for s, n := range map[string]int64{
		"0": 0, "1": 1, "9": 9, "10": 10, "100": 100, "255": 255, "256": 256, "2147483647": math.MaxInt32, "2147483648": 1 << 31, "4294967296": 1 << 32,
		"999999999999999999": 999999999999999999, "1000000000000000000": 1000000000000000000,
		"9223372036854775806": math.MaxInt64 - 1, "9223372036854775807": math.MaxInt64, "9223372036854775808": math.MinInt64,
	} {
		wantTokens(t, s, number(0, s, n))
		wantTokens(t, "- "+s+")", sign(0, "-"), number(2, s, n), sign(2+len(s), ")"))
		wantError(t, "0"+s, api.ErrNumber, 0)
		wantError(t, "a 00"+s+" ;", api.ErrNumber, 2, name(0, "a"))
	}
	for _, s := range []string{"00", "000", "01", "9223372036854775809", "9223372036854775810", "9999999999999999999", "10000000000000000000", "18446744073709551615", "18446744073709551616", "18446744073709551617", "27670116110564327424", "92233720368547758080", "340282366920938463463374607431768211456", "1" + strings.Repeat("0", 100), strings.Repeat("9", 4090), strings.Repeat("0", 4090)} {
		wantError(t, s, api.ErrNumber, 0)
		wantError(t, "a = "+s, api.ErrNumber, 4, name(0, "a"), sign(2, "="))
	}
	wantTokens(t, "1a", number(0, "1", 1), name(1, "a"))
	wantTokens(t, "0x10", number(0, "0", 0), name(1, "x10"))
	wantTokens(t, "1.5", number(0, "1", 1), sign(1, "."), number(2, "5", 5))
	wantTokens(t, "0 0", number(0, "0", 0), number(2, "0", 0))
	wantTokens(t, "7'7'7", number(0, "7", 7), text(1, "'7'", "7"), number(4, "7", 7))
	wantTokens(t, "12select", number(0, "12", 12), word(2, "select"))
	wantError(t, "1_000", api.ErrSign, 1, number(0, "1", 1))
	wantError(t, "1"+strings.Repeat("a", 17), api.ErrBytes, 1, number(0, "1", 1))
}

// P9.1: step 4.
func TestStrings(t *testing.T) {
	for s, means := range map[string]string{
		"''": "", "'a'": "a", "' '": " ", "''''": "'", "''''''": "''", "'a'''": "a'", "'''a'": "'a", "'a''b'": "a'b", "'''a'''": "'a'", "'a''''b'": "a''b", "'a''b''c'": "a'b'c",
		"'X;_\"\\n'": "X;_\"\\n", "'\n\r\t\x00'": "\n\r\t\x00", "'\xff\xc3('": "\xff\xc3(", "'é'": "é", "'select'": "select", "'--'": "--", "'007'": "007",
	} {
		wantTokens(t, s, text(0, s, means))
		wantTokens(t, "a"+s+"b", name(0, "a"), text(1, s, means), name(1+len(s), "b"))
		wantTokens(t, s+" "+s, text(0, s, means), text(1+len(s), s, means))
		wantError(t, "a "+s[:len(s)-1], api.ErrQuote, 2, name(0, "a"))
		wantError(t, "a "+s+"'", api.ErrQuote, 2, name(0, "a"))
	}
	for b := range 256 {
		if s := string([]byte{byte(b)}); s != "'" {
			wantTokens(t, "'"+s+"'", text(0, "'"+s+"'", s))
		}
	}
	wantError(t, "'", api.ErrQuote, 0)
	wantError(t, "'''", api.ErrQuote, 0)
	wantError(t, "'a' 'b", api.ErrQuote, 4, text(0, "'a'", "a"))
	wantError(t, "'a'';", api.ErrQuote, 0)
}

// P9.1: the bytes that a string represents count, not those that it is written with.
func TestStringLengths(t *testing.T) {
	for _, part := range []string{"a", "\x00", "\xff", "'", ";", "\n"} {
		for n := range 130 {
			means := strings.Repeat(part, n)
			s := "'" + strings.ReplaceAll(means, "'", "''") + "'"
			if n <= 64 {
				wantTokens(t, "a"+s, name(0, "a"), text(1, s, means))
			} else {
				wantError(t, "a"+s, api.ErrBytes, 1, name(0, "a"))
				wantError(t, "a"+s+" ;", api.ErrBytes, 1, name(0, "a"))
			}
			wantError(t, "a "+s[:len(s)-1], api.ErrQuote, 2, name(0, "a"))
		}
	}
	e := strings.Repeat("é", 32)
	wantTokens(t, "'"+e+"'", text(0, "'"+e+"'", e))
	wantError(t, "'"+e+"a'", api.ErrBytes, 0)
	mixed := strings.Repeat("a", 63)
	wantTokens(t, "'"+mixed+"'''", text(0, "'"+mixed+"'''", mixed+"'"))
	wantError(t, "'"+mixed+"''a'", api.ErrBytes, 0)
	wantError(t, "'"+strings.Repeat("a", 4095), api.ErrQuote, 0)
	wantError(t, "'"+strings.Repeat("a", 4094)+"'", api.ErrBytes, 0)
}

// P9.1: step 5.
func TestSymbols(t *testing.T) {
	for _, s := range symbols() {
		wantTokens(t, s, sign(0, s))
		wantTokens(t, "a"+s+"1", name(0, "a"), sign(1, s), number(1+len(s), "1", 1))
		wantTokens(t, s+" "+s, sign(0, s), sign(len(s)+1, s))
	}
	wantTokens(t, "<>=", sign(0, "<>"), sign(2, "="))
	wantTokens(t, "<=>", sign(0, "<="), sign(2, ">"))
	wantTokens(t, ">=<=<>", sign(0, ">="), sign(2, "<="), sign(4, "<>"))
	wantTokens(t, "<<>>", sign(0, "<"), sign(1, "<>"), sign(3, ">"))
	wantTokens(t, "=<", sign(0, "="), sign(1, "<"))
	wantTokens(t, "=>", sign(0, "="), sign(1, ">"))
	wantTokens(t, "==", sign(0, "="), sign(1, "="))
	wantTokens(t, "><", sign(0, ">"), sign(1, "<"))
	wantTokens(t, "--", sign(0, "-"), sign(1, "-"))
	wantTokens(t, "count(*)", word(0, "count"), sign(5, "("), sign(6, "*"), sign(7, ")"))
	wantError(t, "a != b", api.ErrSign, 2, name(0, "a"))
	wantError(t, "a < ! b", api.ErrSign, 4, name(0, "a"), sign(2, "<"))
	wantError(t, "a || b", api.ErrSign, 2, name(0, "a"))
}

// P9.1: every byte with which no token begins.
func TestNoSymbol(t *testing.T) {
	begins := letters + digits + "'(),.*+-/%=<> \t\n\r"
	n := 0
	for b := range 256 {
		s := string([]byte{byte(b)})
		if strings.Contains(begins, s) {
			continue
		}
		n++
		wantError(t, s, api.ErrSign, 0)
		wantError(t, "a <"+s+"b", api.ErrSign, 3, name(0, "a"), sign(2, "<"))
		wantError(t, "aaaaaaaaaaaaaaaa"+s, api.ErrSign, 16, name(0, "aaaaaaaaaaaaaaaa"))
	}
	if n != 256-26-10-13-4 {
		t.Errorf("%d bytes", n)
	}
}

// P9.1: of several errors the first one in the source is told, and no token beside it.
func TestFirstError(t *testing.T) {
	wantError(t, "; 007", api.ErrSign, 0)
	wantError(t, "007 ;", api.ErrNumber, 0)
	wantError(t, "a 007 'b", api.ErrNumber, 2, name(0, "a"))
	wantError(t, "'b ; 007", api.ErrQuote, 0)
	wantError(t, "aaaaaaaaaaaaaaaaa ; 'b", api.ErrBytes, 0)
	wantError(t, "'"+strings.Repeat("a", 65)+"' 'b", api.ErrBytes, 0)
	wantError(t, "'"+strings.Repeat("a", 65)+" b", api.ErrQuote, 0)
	wantError(t, strings.Repeat("a ", 100)+";", api.ErrSign, 200, slices.Collect(scan.Tokens(strings.Repeat("a ", 100)))...)
}

// P9.1, P9.2: a source that is too long has no tokens, whatever is in it.
func TestMaxSource(t *testing.T) {
	for _, s := range []string{" ", "(", ";", "'", "a", "0", "'a' ", "a ", "007 ", "\xff", "\n"} {
		for _, n := range []int{4097, 4098, 5000, 8192, 1 << 20} {
			wantError(t, strings.Repeat(s, n)[:n], api.ErrBytes, 4096)
		}
	}
	wantTokens(t, strings.Repeat(" ", 4096))
	wantTokens(t, strings.Repeat(" ", 4095)+"a", name(4095, "a"))
	wantTokens(t, strings.Repeat(" ", 4094)+"''", text(4094, "''", ""))
	wantError(t, strings.Repeat(" ", 4095)+";", api.ErrSign, 4095)
	wantError(t, strings.Repeat(" ", 4096)+";", api.ErrBytes, 4096)
	wantError(t, strings.Repeat(" ", 4096)+"a", api.ErrBytes, 4096)
	var open []api.Token
	for i := range 4096 {
		open = append(open, sign(i, "("))
	}
	wantTokens(t, strings.Repeat("(", 4096), open...)
	wantError(t, strings.Repeat("(", 4095)+"'", api.ErrQuote, 4095, open[:4095]...)
}

// The package imports api alone.
func TestImportsApiAlone(t *testing.T) {
	files, err := filepath.Glob("*.go")
	if err != nil || len(files) == 0 {
		t.Fatal(files, err)
	}
	for _, file := range files {
		if strings.HasSuffix(file, "_test.go") {
			continue
		}
		f, err := parser.ParseFile(token.NewFileSet(), file, nil, parser.ImportsOnly)
		if err != nil {
			t.Fatal(err)
		}
		for _, i := range f.Imports {
			if strings.HasPrefix(i.Path.Value, `"touchmark/`) && i.Path.Value != `"touchmark/api"` {
				t.Errorf("%s imports %s", file, i.Path.Value)
			}
		}
	}
}
