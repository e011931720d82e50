package merkle_test

import (
	"fmt"
	"math/rand"
	"strings"
	"testing"

	"touchmark/merkle"
)

// prove is the proof of a range, as a text.
func prove(x *merkle.Tree, s span) string {
	return string(x.Prove([]byte(s.from), []byte(s.to), s.end))
}

// wantProof holds the proof of a range against the model's, and what is verified by it against the entries.
func wantProof(t *testing.T, x *merkle.Tree, l []merkle.Entry, s span) {
	t.Helper()
	p := prove(x, s)
	if want := proofOf(l, s, bounds{}); p != want {
		t.Errorf("Prove %+v of %s: %q, want %q", s, told(l), p, want)
	}
	wantVerify(t, x.Root(), s, []byte(p), 0, within(l, s)...)
}

// P7.2, P7.5: all ranges between the keys of small trees, the keys themselves, and what is ahead of them and behind.
func TestProveAllRanges(t *testing.T) {
	edges := []string{"", "\x00", "a", "a\x00", "aa", "b", "b\x00", "ba", "c", "d", "e", "f", "g", "zz", "\xff"}
	keys := []string{"", "a", "b", "ba", "c", "d", "e", "f", "g"}
	for n := range len(keys) + 1 {
		for _, l := range [][]merkle.Entry{numbered(keys[:n]...), numbered(keys[n:]...)} {
			x := build(t, l)
			for _, from := range edges {
				wantProof(t, x, l, span{from: from})
				for _, to := range edges {
					wantProof(t, x, l, span{from: from, to: to, end: true})
					wantProof(t, x, l, span{from: from, to: to})
				}
			}
		}
	}
}

// P7.2, P7.5: random trees and ranges.
func TestProveRandom(t *testing.T) {
	for seed := range int64(100) {
		r := rand.New(rand.NewSource(seed))
		l := entriesOf(randomMap(r, r.Intn(100)))
		x := build(t, l)
		for range 20 {
			wantProof(t, x, l, randomSpan(r))
		}
	}
}

// P7.2: without an end the argument to has no meaning.
func TestProveWithoutEnd(t *testing.T) {
	x := build(t, numbered("a", "b", "c"))
	for _, to := range []string{"", "a", "b", "zz"} {
		if prove(x, span{from: "b", to: to}) != prove(x, span{from: "b"}) {
			t.Errorf("the end %q counts", to)
		}
	}
}

// P7.2: of an empty range the whole tree is pruned; an empty tree never is.
func TestProveEmptyRange(t *testing.T) {
	l := numbered("a", "b", "c")
	for _, s := range []span{{"b", "b", true}, {"b", "a", true}, {"", "", true}, {"z", "", true}, {"a\x00", "a", true}} {
		if p := prove(build(t, l), s); p != "\x01"+digest(l) {
			t.Errorf("%+v: %q", s, p)
		}
		if p := prove(build(t, nil), s); p != "\x00" {
			t.Errorf("%+v of the empty tree: %q", s, p)
		}
	}
}

// P7.2: a proof tells a key's length in two bytes, and its count in eight.
func TestProveLongKeys(t *testing.T) {
	var l []merkle.Entry
	for i, n := range []int{0, 1, 255, 256, 257, 4095, 65534, 65535} {
		l = append(l, merkle.Entry{Key: []byte(strings.Repeat("k", n)), Count: 1<<62>>(8*i) + 1})
	}
	x := build(t, l)
	for _, c := range l {
		wantProof(t, x, l, span{from: string(c.Key)})
		wantProof(t, x, l, span{to: string(c.Key), end: true})
		wantProof(t, x, l, span{from: string(c.Key), to: string(c.Key) + "\x00", end: true})
	}
}

// P7.5: proofs of one tree are no proofs of another one, and no other range's.
func TestProofOfAnother(t *testing.T) {
	x, y := build(t, numbered("a", "b", "c", "d", "e")), build(t, numbered("a", "b", "c", "d"))
	whole := span{}
	wantVerify(t, x.Root(), whole, []byte(prove(y, whole)), 51)
	wantVerify(t, x.Root(), whole, []byte(prove(x, span{from: "b"})), 50)
	wantVerify(t, x.Root(), span{from: "b"}, []byte(prove(x, whole)), 0, numbered("a", "b", "c", "d", "e")[1:]...)
}

// P7.5: what Prove returns is accepted after any changes.
func TestProveAfterSet(t *testing.T) {
	r := rand.New(rand.NewSource(5))
	m := map[string]int64{}
	x := build(t, nil)
	for range 300 {
		k, n := randomKey(r), int64(r.Intn(3))
		set(t, x, k, n)
		m[k] = n
		if n == 0 {
			delete(m, k)
		}
		wantProof(t, x, entriesOf(m), randomSpan(r))
	}
}

// P7.5: a tree of as many entries as a table may have.
func TestProveManyEntries(t *testing.T) {
	m := map[string]int64{}
	for i := range 4096 {
		m[digestOf("key", fmt.Sprint(i))[:8]] = int64(i + 1)
	}
	l := entriesOf(m)
	x := build(t, l)
	wantTree(t, x, l)
	for _, i := range []int{0, 1, 77, 2048, 4095} {
		s := span{from: string(l[i].Key), to: string(l[i].Key) + "\x00", end: true}
		wantVerify(t, x.Root(), s, []byte(prove(x, s)), 0, l[i])
		s = span{from: string(l[i].Key)}
		wantVerify(t, x.Root(), s, []byte(prove(x, s)), 0, l[i:]...)
	}
}
