package merkle_test

import (
	"bytes"
	"crypto/sha256"
	"encoding/binary"
	"fmt"
	"maps"
	"math/rand"
	"slices"
	"strings"
	"testing"

	"touchmark/merkle"
	"touchmark/sha"
)

// digestOf is the digest of the joined form of parts, by another implementation.
func digestOf(parts ...string) string {
	b := binary.BigEndian.AppendUint64(nil, uint64(len(parts)))
	for _, p := range parts {
		b = binary.BigEndian.AppendUint64(b, uint64(len(p)))
		b = append(b, p...)
	}
	d := sha256.Sum256(b)
	return string(d[:])
}

func nodeDigest(left, key string, count int64, right string) string {
	return digestOf("node", left, key, string(number(count)), right)
}

// first is the index of the entry at the root of a list's tree.
func first(l []merkle.Entry) int {
	best, rank := 0, ""
	for i, x := range l {
		if r := digestOf(string(x.Key)); r > rank {
			best, rank = i, r
		}
	}
	return best
}

// digest is the digest of a list's tree, by the chapter's words.
func digest(l []merkle.Entry) string {
	if len(l) == 0 {
		return digestOf("empty")
	}
	i := first(l)
	return nodeDigest(digest(l[:i]), string(l[i].Key), l[i].Count, digest(l[i+1:]))
}

func rootOf(l []merkle.Entry) sha.Digest {
	return sha.Digest([]byte(digest(l)))
}

// span is a range.
type span struct {
	from, to string
	end      bool
}

func (s span) empty() bool {
	return s.end && s.to <= s.from
}

func (s span) has(key string) bool {
	return key >= s.from && (!s.end || key < s.to)
}

// bounds are the keys next to a subtree; none, or one.
type bounds struct {
	low, high []string
}

func (b bounds) outside(s span) bool {
	for _, high := range b.high {
		if high <= s.from {
			return true
		}
	}
	for _, low := range b.low {
		if s.end && low >= s.to {
			return true
		}
	}
	return s.empty()
}

func (b bounds) left(key string) bounds {
	return bounds{low: b.low, high: []string{key}}
}

func (b bounds) right(key string) bounds {
	return bounds{low: []string{key}, high: b.high}
}

// proofOf is the proof of a range of a list's tree, by the chapter's words.
func proofOf(l []merkle.Entry, s span, at bounds) string {
	if len(l) == 0 {
		return "\x00"
	}
	if at.outside(s) {
		return "\x01" + digest(l)
	}
	i := first(l)
	key := string(l[i].Key)
	return nodeProof(proofOf(l[:i], s, at.left(key)), key, l[i].Count, proofOf(l[i+1:], s, at.right(key)))
}

func nodeProof(left, key string, count int64, right string) string {
	return "\x02" + left + string(number(int64(len(key)))[6:]) + key + string(number(count)) + right
}

// within are the entries in a range.
func within(l []merkle.Entry, s span) []merkle.Entry {
	var in []merkle.Entry
	for _, x := range l {
		if s.has(string(x.Key)) {
			in = append(in, x)
		}
	}
	return in
}

// entriesOf is a map's list of entries.
func entriesOf(m map[string]int64) []merkle.Entry {
	var l []merkle.Entry
	for _, k := range slices.Sorted(maps.Keys(m)) {
		l = append(l, merkle.Entry{Key: []byte(k), Count: m[k]})
	}
	return l
}

// randomKey is one of few short keys, or one of many, or one of prefixes of each other.
func randomKey(r *rand.Rand) string {
	switch r.Intn(4) {
	case 0:
		return strings.Repeat("a", r.Intn(6))
	case 1:
		return fmt.Sprint(r.Intn(1000))
	}
	b := make([]byte, r.Intn(3))
	for i := range b {
		b[i] = "\x00\x01ab\xfe\xff"[r.Intn(6)]
	}
	return string(b)
}

func randomMap(r *rand.Rand, n int) map[string]int64 {
	m := map[string]int64{}
	for range n {
		m[randomKey(r)] = 1 + r.Int63()>>r.Intn(63)
	}
	return m
}

func randomSpan(r *rand.Rand) span {
	s := span{from: randomKey(r), end: r.Intn(2) == 0}
	if s.end || r.Intn(2) == 0 {
		s.to = randomKey(r)
	}
	return s
}

// P7.1, P7.5: random changes, against a map.
func TestRandomChanges(t *testing.T) {
	for seed := range int64(60) {
		r := rand.New(rand.NewSource(seed))
		m := randomMap(r, r.Intn(20))
		x := build(t, entriesOf(m))
		wantTree(t, x, entriesOf(m))
		for range 60 {
			k, n := randomKey(r), r.Int63()>>r.Intn(63)
			if r.Intn(2) == 0 {
				n = int64(r.Intn(2))
			}
			set(t, x, k, n)
			m[k] = n
			if n == 0 {
				delete(m, k)
			}
			if r.Intn(4) == 0 {
				wantTree(t, x, entriesOf(m))
			}
		}
		wantTree(t, x, entriesOf(m))
	}
}

// P7.5: the root does not depend on the order of the calls of Set, and is that of the list that is built at once.
func TestAnyOrderOfSet(t *testing.T) {
	for seed := range int64(20) {
		r := rand.New(rand.NewSource(seed))
		l := entriesOf(randomMap(r, 200))
		want := build(t, l).Root()
		if want != rootOf(l) {
			t.Fatalf("another root of %s", told(l))
		}
		for _, order := range [][]int{r.Perm(len(l)), ascending(len(l)), descending(len(l))} {
			x := build(t, nil)
			for _, i := range order {
				set(t, x, string(l[i].Key), 77)
				set(t, x, randomKey(r)+"!", 1)
				set(t, x, string(l[i].Key), l[i].Count)
			}
			for _, y := range x.All() {
				if bytes.HasSuffix(y.Key, []byte("!")) {
					set(t, x, string(y.Key), 0)
				}
			}
			if x.Root() != want {
				t.Errorf("seed %d: another root in another order", seed)
			}
			for _, i := range order {
				set(t, x, string(l[i].Key), 0)
			}
			wantTree(t, x, nil)
		}
	}
}

func ascending(n int) []int {
	var l []int
	for i := range n {
		l = append(l, i)
	}
	return l
}

func descending(n int) []int {
	l := ascending(n)
	slices.Reverse(l)
	return l
}

// P7.1: trees of different entries have different roots.
func TestOtherEntriesOtherRoot(t *testing.T) {
	l := numbered("", "a", "b", "ba", "c", "d")
	seen := map[sha.Digest]string{}
	for i := range l {
		for _, n := range []int64{0, 1 << 8, 1 << 16, 1 << 32, 1 << 40, 1 << 48, 1 << 56, 1 << 62, 77} {
			x := build(t, l)
			set(t, x, string(l[i].Key), n)
			text := told(x.All())
			if other, ok := seen[x.Root()]; ok {
				t.Errorf("%s has the root of %s", text, other)
			}
			seen[x.Root()] = text
		}
	}
}
