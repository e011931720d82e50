package merkle

import (
	"bytes"

	"touchmark/sha"
)

// node is a tree that is not empty; the empty tree is nil. In a proof it may be pruned: then its digest is all that is known of it. A proof's nodes have no ranks.
type node struct {
	ranked
	left, right *node
	digest      sha.Digest
	pruned      bool
}

// ranked is an entry and the rank of its key, by which the entries of a tree find their places.
type ranked struct {
	Entry
	rank sha.Digest
}

// withRank returns a copy of an entry with its rank.
func withRank(x Entry) ranked {
	return ranked{Entry: x.copied(), rank: sha.Of(x.Key)}
}

// copied returns the entry with a key of its own.
func (x Entry) copied() Entry {
	return Entry{Key: bytes.Clone(x.Key), Count: x.Count}
}

// above returns whether x is the root of a tree of x and y; of one entry and itself neither is.
func (x ranked) above(y ranked) bool {
	if c := bytes.Compare(x.rank[:], y.rank[:]); c != 0 {
		return c > 0
	}
	return bytes.Compare(x.Key, y.Key) < 0
}

// newNode returns the node of an entry and its subtrees.
func newNode(x ranked, left, right *node) *node {
	n := &node{ranked: x, left: left, right: right}
	n.digest = sha.Sum(n.text())
	return n
}

// text returns the text of a tree that is not pruned.
func (n *node) text() []byte {
	if n == nil {
		return sha.Join([]byte("empty"))
	}
	left, right := n.left.sum(), n.right.sum()
	return sha.Join([]byte("node"), left[:], n.Key, appendNumber(nil, n.Count), right[:])
}

// sum returns the digest of a tree.
func (n *node) sum() sha.Digest {
	if n == nil {
		return sha.Sum(n.text())
	}
	return n.digest
}

// appendNumber appends n as 8 bytes, most significant byte first.
func appendNumber(b []byte, n int64) []byte {
	for shift := 56; shift >= 0; shift -= 8 {
		b = append(b, byte(n>>shift))
	}
	return b
}

// treeOf returns the tree of the entries of a valid list. The nodes down its right side wait for their right subtrees, since what comes later may still belong there.
func treeOf(l []ranked) *node {
	type waiting struct {
		ranked
		left *node
	}
	var side []waiting
	finish := func(ready func(ranked) bool) *node {
		var right *node
		for len(side) > 0 && ready(side[len(side)-1].ranked) {
			last := side[len(side)-1]
			side = side[:len(side)-1]
			right = newNode(last.ranked, last.left, right)
		}
		return right
	}
	for _, x := range l {
		left := finish(x.above)
		side = append(side, waiting{ranked: x, left: left})
	}
	return finish(func(ranked) bool { return true })
}

// set returns the tree in which the key of x has its count; with the count 0, the tree without the key.
func (n *node) set(x ranked) *node {
	return n.changed(x, func(n *node) *node {
		left, right := n.split(x.Key)
		if x.Count == 0 {
			return joined(left, right)
		}
		return newNode(x, left, right)
	})
}

// changed returns the tree after a change of one of its subtrees: of the one whose root has the key of x, or would have it. The path to it is copied.
func (n *node) changed(x ranked, change func(*node) *node) *node {
	if n == nil || !n.above(x) {
		return change(n)
	}
	if bytes.Compare(x.Key, n.Key) < 0 {
		return newNode(n.ranked, n.left.changed(x, change), n.right)
	}
	return newNode(n.ranked, n.left, n.right.changed(x, change))
}

// split returns the tree of the entries ahead of a key, and that of those behind it.
func (n *node) split(key []byte) (*node, *node) {
	if n == nil {
		return nil, nil
	}
	switch c := bytes.Compare(key, n.Key); {
	case c < 0:
		left, right := n.left.split(key)
		return left, newNode(n.ranked, right, n.right)
	case c > 0:
		left, right := n.right.split(key)
		return newNode(n.ranked, n.left, left), right
	}
	return n.left, n.right
}

// joined returns the tree of the entries of two, where those of the right one are behind those of the left one.
func joined(left, right *node) *node {
	if left == nil {
		return right
	}
	if right == nil {
		return left
	}
	if left.above(right.ranked) {
		return newNode(left.ranked, left.left, joined(left.right, right))
	}
	return newNode(right.ranked, joined(left, right.left), right.right)
}
