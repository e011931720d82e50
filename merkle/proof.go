package merkle

import (
	"bytes"

	"touchmark/api"
	"touchmark/sha"
)

// A tree's first byte in a proof.
const (
	emptyTree = iota
	prunedTree
	nodeTree
)

// Verify returns the entries in a range that a proof proves for a root: those in the keys from from on and, if end is true, ahead of to; otherwise the first error.
func Verify(root sha.Digest, from, to []byte, end bool, proof []byte) ([]Entry, api.Errno) {
	n, e := read(proof)
	if e != api.OK {
		return nil, e
	}
	wanted := span{from: from, to: to, end: end}
	switch {
	case !n.ascends():
		return nil, api.ErrOrder
	case !n.tells(wanted):
		return nil, api.ErrProof
	case n.sum() != root:
		return nil, api.ErrDigest
	}
	return n.entries(wanted), api.OK
}

// Clash returns the first two texts of two proofs that are different but have the same digest, and true; or false if there are none.
func Clash(a, b []byte) ([]byte, []byte, bool) {
	x, e := read(a)
	if e != api.OK {
		return nil, nil, false
	}
	y, e := read(b)
	if e != api.OK {
		return nil, nil, false
	}
	return clash(x, y)
}

func clash(x, y *node) ([]byte, []byte, bool) {
	if x.isPruned() || y.isPruned() {
		return nil, nil, false
	}
	a, b := x.text(), y.text()
	if !bytes.Equal(a, b) {
		if x.sum() == y.sum() {
			return a, b, true
		}
		return nil, nil, false
	}
	if x == nil || y == nil {
		return nil, nil, false
	}
	if a, b, ok := clash(x.left, y.left); ok {
		return a, b, true
	}
	return clash(x.right, y.right)
}

func (n *node) isPruned() bool {
	return n != nil && n.pruned
}

// proof returns the bytes of a tree's proof for a range.
func (n *node) proof(wanted span) []byte {
	var b []byte
	n.visit(bounds{}, func(n *node, at bounds) bool {
		switch {
		case n == nil:
			b = append(b, emptyTree)
		case at.outside(wanted):
			b = append(b, prunedTree)
			b = append(b, n.digest[:]...)
		default:
			b = append(b, nodeTree)
			return true
		}
		return false
	}, func(n *node) {
		b = append(b, byte(len(n.Key)>>8), byte(len(n.Key)))
		b = append(b, n.Key...)
		b = appendNumber(b, n.Count)
	})
	return b
}
