package merkle

import (
	"bytes"
	"fmt"
	"maps"
	"math/rand"
	"slices"
	"strings"
	"testing"

	"touchmark/api"
	"touchmark/sha"
)

// These tests make what nobody can find for SHA-256: different texts with the same digest, and keys of the same rank. So they are in the package.

// forged gives a node another digest.
func forged(n *node, digest sha.Digest) *node {
	n.digest = digest
	return n
}

func leafOf(key string) *node {
	return newNode(ranked{Entry: Entry{Key: []byte(key), Count: 1}}, nil, nil)
}

func nodeOf(left *node, key string, right *node) *node {
	return newNode(ranked{Entry: Entry{Key: []byte(key), Count: 1}}, left, right)
}

func prunedOf(digest sha.Digest) *node {
	return &node{digest: digest, pruned: true}
}

func wantClash(t *testing.T, name string, x, y, first, second *node) {
	t.Helper()
	if a, b, ok := clash(x, y); !ok || !bytes.Equal(a, first.text()) || !bytes.Equal(b, second.text()) {
		t.Errorf("%s: %q, %q, %v", name, a, b, ok)
	}
	if a, b, ok := clash(y, x); !ok || !bytes.Equal(a, second.text()) || !bytes.Equal(b, first.text()) {
		t.Errorf("%s, turned round: %q, %q, %v", name, a, b, ok)
	}
}

// P7.4: different texts with the same digest are found, wherever they are.
func TestClashFound(t *testing.T) {
	d := sha.Digest{1, 2, 3}
	a, b := forged(leafOf("a"), d), forged(leafOf("b"), d)
	wantClash(t, "at the root", a, b, a, b)
	wantClash(t, "on the left", nodeOf(a, "m", nil), nodeOf(b, "m", nil), a, b)
	wantClash(t, "on the right", nodeOf(nil, "m", a), nodeOf(nil, "m", b), a, b)
	wantClash(t, "farther down", nodeOf(nodeOf(nil, "c", a), "m", nil), nodeOf(nodeOf(nil, "c", b), "m", nil), a, b)
	wantClash(t, "farther down on the right", nodeOf(nil, "m", nodeOf(a, "x", nil)), nodeOf(nil, "m", nodeOf(b, "x", nil)), a, b)
	var none *node
	e := forged(leafOf("e"), none.sum())
	wantClash(t, "with an empty tree", none, e, none, e)
	wantClash(t, "with an empty tree farther down", nodeOf(nil, "m", e), nodeOf(nil, "m", nil), e, none)
	more := leafOf("a")
	more.Count = 2
	wantClash(t, "of another count", a, forged(more, d), a, more)
	left, right := forged(nodeOf(leafOf("a"), "b", nil), d), forged(nodeOf(nil, "b", leafOf("c")), d)
	wantClash(t, "of other subtrees", left, right, left, right)
}

// P7.4: the first clash counts: a node ahead of its subtrees, the left one ahead of the right one.
func TestClashFirst(t *testing.T) {
	d, e := sha.Digest{1, 2, 3}, sha.Digest{4, 5, 6}
	a, b := forged(leafOf("a"), d), forged(leafOf("b"), d)
	x, y := forged(leafOf("x"), e), forged(leafOf("y"), e)
	wantClash(t, "left", nodeOf(a, "m", x), nodeOf(b, "m", y), a, b)
	wantClash(t, "left, turned round", nodeOf(x, "m", a), nodeOf(y, "m", b), x, y)
	deep, other := nodeOf(a, "c", nil), nodeOf(b, "c", nil)
	wantClash(t, "left and deeper", nodeOf(deep, "m", x), nodeOf(other, "m", y), a, b)
	top, another := forged(nodeOf(a, "m", x), d), forged(nodeOf(b, "n", y), d)
	wantClash(t, "the node", top, another, top, another)
	wantClash(t, "right alone", nodeOf(a, "m", x), nodeOf(a, "m", y), x, y)
}

// P7.4: no clash where one tree is pruned, nor under nodes of different texts.
func TestClashPassedBy(t *testing.T) {
	d := sha.Digest{1, 2, 3}
	a, b := forged(leafOf("a"), d), forged(leafOf("b"), d)
	var none *node
	for name, c := range map[string][2]*node{
		"pruned":                      {prunedOf(d), a},
		"both pruned":                 {prunedOf(d), prunedOf(d)},
		"differently pruned":          {prunedOf(d), prunedOf(sha.Digest{9})},
		"pruned and empty":            {prunedOf(none.sum()), nil},
		"pruned below":                {nodeOf(prunedOf(d), "m", nil), nodeOf(b, "m", nil)},
		"both empty":                  {nil, nil},
		"the same":                    {a, a},
		"the same below":              {nodeOf(a, "m", nil), nodeOf(a, "m", nil)},
		"other texts, other digests":  {nodeOf(a, "m", nil), nodeOf(b, "n", nil)},
		"the same texts, other sides": {nodeOf(a, "m", nil), nodeOf(nil, "m", b)},
		"a node and an empty tree":    {nodeOf(a, "m", nil), nil},
	} {
		for range 2 {
			if x, y, ok := clash(c[0], c[1]); ok || x != nil || y != nil {
				t.Errorf("%s: %q, %q, %v", name, x, y, ok)
			}
			c[0], c[1] = c[1], c[0]
		}
	}
}

// weak makes a tree's digests so short that many trees share one.
func weak(n *node) *node {
	if n == nil {
		return nil
	}
	m := newNode(n.ranked, weak(n.left), weak(n.right))
	return forged(m, sha.Digest{m.digest[0] & 7})
}

// texts are the texts of all trees in a tree.
func texts(n *node) map[string]sha.Digest {
	all := map[string]sha.Digest{}
	n.visit(bounds{}, func(n *node, _ bounds) bool {
		all[string(n.text())] = n.sum()
		return true
	}, func(*node) {})
	return all
}

// P7.5: of two trees with the same digest and other entries, there is a clash; what is found is different, is in the trees, and has the same digest.
func TestClashOfWeakDigests(t *testing.T) {
	found := 0
	for seed := range int64(4000) {
		r := rand.New(rand.NewSource(seed))
		x, y := weak(randomTree(r)), weak(randomTree(r))
		a, b, ok := clash(x, y)
		d, isText := texts(x)[string(a)]
		e, isOther := texts(y)[string(b)]
		if ok && (bytes.Equal(a, b) || !isText || !isOther || d != e) {
			t.Errorf("seed %d: %q, %q", seed, a, b)
		}
		if x.sum() == y.sum() && told(x) != told(y) {
			found++
			if !ok {
				t.Errorf("seed %d: no clash", seed)
			}
		}
	}
	if found < 100 {
		t.Errorf("%d trees only had a digest in common", found)
	}
}

func told(n *node) string {
	return fmt.Sprint(n.entries(span{}))
}

// few is an entry with one of few ranks.
func few(r *rand.Rand, key string, count int64) ranked {
	return ranked{Entry: Entry{Key: []byte(key), Count: count}, rank: sha.Digest{31: byte(r.Intn(3))}}
}

// randomList is a valid list of entries with few ranks.
func randomList(r *rand.Rand, n int) []ranked {
	keys := map[string]int{}
	for range n {
		keys[strings.Repeat("a", r.Intn(3))+fmt.Sprint(r.Intn(40))]++
	}
	var l []ranked
	for _, k := range slices.Sorted(maps.Keys(keys)) {
		l = append(l, few(r, k, int64(keys[k])))
	}
	return l
}

func randomTree(r *rand.Rand) *node {
	return treeOf(randomList(r, r.Intn(6)))
}

// wanted is the tree of a list by the chapter's words: among equal ranks, the smallest key is above.
func wanted(l []ranked) *node {
	if len(l) == 0 {
		return nil
	}
	top := 0
	for i, x := range l {
		if bytes.Compare(x.rank[:], l[top].rank[:]) > 0 {
			top = i
		}
	}
	return newNode(l[top], wanted(l[:top]), wanted(l[top+1:]))
}

// P7.1, P7.5: among equal ranks that of the smallest key is the greatest, whether a tree is built at once, or by changes in any order.
func TestEqualRanks(t *testing.T) {
	for seed := range int64(300) {
		r := rand.New(rand.NewSource(seed))
		l := randomList(r, r.Intn(40))
		want := wanted(l).sum()
		if treeOf(l).sum() != want {
			t.Errorf("seed %d: another tree is built", seed)
		}
		var n *node
		for _, i := range r.Perm(len(l)) {
			n = n.set(l[i])
		}
		if n.sum() != want {
			t.Errorf("seed %d: another tree by changes", seed)
		}
		for len(l) > 0 {
			i := r.Intn(len(l))
			x := l[i]
			x.Count = 0
			n = n.set(x)
			l = slices.Delete(l, i, i+1)
			if n.sum() != wanted(l).sum() {
				t.Errorf("seed %d: another tree without a key", seed)
			}
			if m := n.set(x); m.sum() != n.sum() {
				t.Errorf("seed %d: another tree without a key that is not there", seed)
			}
		}
	}
}

// R1: trees that are far deeper than those that chance makes; P7.5: deeper than 4096, the proof is not accepted.
func TestDeepTrees(t *testing.T) {
	const size = 1 << 15
	var up, down []ranked
	for i := range size {
		e := Entry{Key: fmt.Appendf(nil, "%06d", i), Count: 1}
		up = append(up, ranked{Entry: e, rank: sha.Digest{0: byte(i >> 8), 1: byte(i)}})
		down = append(down, ranked{Entry: e})
	}
	for _, l := range [][]ranked{up, down} {
		x := Tree{top: treeOf(l)}
		if n := len(x.All()); n != size {
			t.Errorf("%d entries", n)
		}
		p := x.Prove(nil, nil, false)
		if _, e := Verify(x.Root(), nil, nil, false, p); e != api.ErrDeep {
			t.Errorf("Verify: %d", e)
		}
		if _, _, ok := Clash(p, p); ok {
			t.Error("a clash")
		}
		before := x.Root()
		x.Set([]byte("key"), 1)
		x.Set([]byte("key"), 0)
		if x.Root() != before {
			t.Error("another root")
		}
		y := Tree{top: treeOf(l[:4096])}
		all, e := Verify(y.Root(), nil, nil, false, y.Prove(nil, nil, false))
		if e != api.OK || len(all) != 4096 {
			t.Errorf("Verify: %d entries, %d", len(all), e)
		}
	}
}
