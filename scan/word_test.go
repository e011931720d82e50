package scan_test

import (
	"math/rand"
	"slices"
	"strings"
	"testing"

	"touchmark/api"
	"touchmark/scan"
)

// wantWordAndName asks Word and Name, and whether a source of these bytes is scanned as they say.
func wantWordAndName(t *testing.T, s string, isWord, isName bool) {
	t.Helper()
	if got := scan.Word(s); got != isWord {
		t.Errorf("Word %.80q: %v", s, got)
	}
	if got := scan.Name(s); got != isName {
		t.Errorf("Name %.80q: %v", s, got)
	}
	kind := 0
	if l, _, _ := scan.All(s); len(l) == 1 && l[0].Text == s {
		kind = l[0].Kind
	}
	if (kind == api.TokWord) != isWord || (kind == api.TokName) != isName {
		t.Errorf("All %.80q: a token of the kind %d", s, kind)
	}
}

// P9.3: the keywords, and what is almost one.
func TestWord(t *testing.T) {
	if len(words()) != 46 {
		t.Fatal(len(words()))
	}
	isName := func(s string) bool { return s != "" && !slices.Contains(words(), s) }
	for _, s := range words() {
		wantWordAndName(t, s, true, false)
		for i := range s {
			for _, near := range []string{s[:i], s[i+1:], s[:i] + "q" + s[i+1:], s[:i] + "0" + s[i:], s[:i] + s[i:i+1] + s[i:]} {
				wantWordAndName(t, near, near != "" && !isName(near), isName(near) && near[0] != '0')
			}
			wantWordAndName(t, s[:i]+strings.ToUpper(s[i:i+1])+s[i+1:], false, false)
			wantWordAndName(t, s[:i]+" "+s[i:], false, false)
		}
		wantWordAndName(t, s+" ", false, false)
		wantWordAndName(t, s+"\x00", false, false)
		wantWordAndName(t, "'"+s+"'", false, false)
	}
	for _, s := range []string{"", " ", "asc", "inner", "right", "outer", "drop", "integer", "boolean", "varchar", "string", "avg", "rollback", "begin", "between", "like", "foreign", "default", "index", "else", "unknown"} {
		if scan.Word(s) {
			t.Errorf("Word %q", s)
		}
	}
}

// P9.3: names, of each length.
func TestNameLengths(t *testing.T) {
	for n := range 100 {
		for _, s := range []string{strings.Repeat("a", n), "z" + strings.Repeat("0", max(n, 1)-1), strings.Repeat("z9", n)[:n]} {
			wantWordAndName(t, s, false, len(s) >= 1 && len(s) <= 16)
		}
		wantWordAndName(t, strings.Repeat("1", n), false, false)
		wantWordAndName(t, strings.Repeat("a", n)+" ", false, false)
	}
	wantWordAndName(t, "", false, false)
	wantWordAndName(t, strings.Repeat("a", 1<<20), false, false)
	wantWordAndName(t, strings.Repeat("select", 1000), false, false)
}

// P9.3: each string of one byte or two, and each byte within a longer one.
func TestNameBytes(t *testing.T) {
	short := []string{"on", "by", "as", "or", "is", "in"}
	for a := range 256 {
		s := string([]byte{byte(a)})
		begins := strings.Contains(letters, s)
		goes := strings.Contains(letters+digits, s)
		wantWordAndName(t, s, false, begins)
		wantWordAndName(t, s+"bcd", false, begins)
		wantWordAndName(t, "ab"+s+"d", false, goes)
		wantWordAndName(t, "abcdefghijklmno"+s, false, goes)
		for b := range 256 {
			two := s + string([]byte{byte(b)})
			isWord := slices.Contains(short, two)
			wantWordAndName(t, two, isWord, begins && strings.Contains(letters+digits, two[1:]) && !isWord)
		}
	}
}

// P9.3: a string is a name or keyword if, and only if, it is scanned as one.
func TestWordAndNameByChance(t *testing.T) {
	chance := rand.New(rand.NewSource(4))
	l := append(pieces(), wrongPieces()...)
	for range 5000 {
		s := l[chance.Intn(len(l))]
		if chance.Intn(2) == 0 {
			s += l[chance.Intn(len(l))]
		}
		tokens, e, _ := modelAll(s)
		whole := e == api.OK && len(tokens) == 1 && tokens[0].Text == s
		wantWordAndName(t, s, whole && tokens[0].Kind == api.TokWord, whole && tokens[0].Kind == api.TokName)
	}
}
