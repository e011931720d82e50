package merkle_test

import (
	"math/rand"
	"strings"
	"testing"

	"touchmark/merkle"
)

// wantNoClash holds two proofs against each other, both ways.
func wantNoClash(t *testing.T, a, b string) {
	t.Helper()
	for range 2 {
		if x, y, ok := merkle.Clash([]byte(a), []byte(b)); ok || len(x) != 0 || len(y) != 0 {
			t.Errorf("Clash of %.200q and %.200q: %q, %q, %v", a, b, x, y, ok)
		}
		a, b = b, a
	}
}

// P7.4: proofs of one tree do not clash, nor do those of different trees.
func TestNoClash(t *testing.T) {
	var all []string
	for _, l := range [][]merkle.Entry{nil, numbered("a"), numbered("b"), numbered("a", "b", "c", "d", "e"), numbered("a", "b", "c", "d", "f")} {
		x := build(t, l)
		for _, s := range []span{{}, {"b", "d", true}, {"c", "", false}, {"x", "x", true}} {
			all = append(all, prove(x, s))
		}
	}
	for _, a := range all {
		for _, b := range all {
			wantNoClash(t, a, b)
		}
	}
}

// P7.4: what can't be read has no clash, on either side.
func TestNoClashOfUnreadable(t *testing.T) {
	d := strings.Repeat("d", 32)
	zero := node(empty(), "b", 0, empty()).bytes()
	for _, bad := range []string{
		"", "\x01", "\x01" + d[1:], "\x02", "\x03", "\x00\x00", "\x01" + d + "\x00", zero, leaf("b").bytes() + "x",
		leaf("b").bytes()[1:], strings.Repeat("\x02", 4097), chain(4097, func(int) bool { return true }).bytes(),
	} {
		wantNoClash(t, bad, bad)
		for _, good := range []string{"\x00", "\x01" + d, leaf("b").bytes(), node(leaf("c"), "b", 1, empty()).bytes()} {
			wantNoClash(t, bad, good)
		}
	}
}

// R1: any proofs are answered.
func TestClashRandom(t *testing.T) {
	for seed := range int64(3000) {
		r := rand.New(rand.NewSource(seed))
		keys := randomKeys(r)
		wantNoClash(t, randomPart(r, keys).bytes(), randomPart(r, keys).bytes())
	}
}
