package merkle

import (
	"touchmark/api"
	"touchmark/sha"
)

const (
	maxNested   = 4096 // a proof's tree may be nested in so many others
	lengthBytes = 2
	numberBytes = 8
)

// read returns the tree that a proof describes; its keys are the proof's own bytes.
func read(proof []byte) (*node, api.Errno) {
	r := reader{rest: proof}
	n, e := r.tree(0)
	if e == api.OK && len(r.rest) > 0 {
		e = api.ErrRest
	}
	if e != api.OK {
		return nil, e
	}
	return n, api.OK
}

// reader takes a proof apart from its first byte on.
type reader struct {
	rest []byte
}

// tree takes a tree that is nested in so many others.
func (r *reader) tree(nested int) (*node, api.Errno) {
	if nested > maxNested {
		return nil, api.ErrDeep
	}
	first, e := r.take(1)
	if e != api.OK {
		return nil, e
	}
	switch first[0] {
	case emptyTree:
		return nil, api.OK
	case prunedTree:
		return r.pruned()
	case nodeTree:
		return r.node(nested)
	}
	return nil, api.ErrForm
}

// pruned takes what follows a pruned tree's first byte.
func (r *reader) pruned() (*node, api.Errno) {
	d, e := r.take(len(sha.Digest{}))
	if e != api.OK {
		return nil, e
	}
	return &node{digest: sha.Digest(d), pruned: true}, api.OK
}

// node takes what follows a node's first byte.
func (r *reader) node(nested int) (*node, api.Errno) {
	left, e := r.tree(nested + 1)
	if e != api.OK {
		return nil, e
	}
	x, e := r.entry()
	if e != api.OK {
		return nil, e
	}
	right, e := r.tree(nested + 1)
	if e != api.OK {
		return nil, e
	}
	return newNode(ranked{Entry: x}, left, right), api.OK
}

func (r *reader) entry() (Entry, api.Errno) {
	length, e := r.number(lengthBytes)
	if e != api.OK {
		return Entry{}, e
	}
	key, e := r.take(int(length))
	if e != api.OK {
		return Entry{}, e
	}
	count, e := r.number(numberBytes)
	if e != api.OK {
		return Entry{}, e
	}
	if count < 1 {
		return Entry{}, api.ErrForm
	}
	return Entry{Key: key, Count: count}, api.OK
}

// number takes a number of so many bytes.
func (r *reader) number(size int) (int64, api.Errno) {
	b, e := r.take(size)
	if e != api.OK {
		return 0, e
	}
	var n int64
	for _, x := range b {
		n = n<<8 | int64(x)
	}
	return n, api.OK
}

// take takes so many bytes.
func (r *reader) take(n int) ([]byte, api.Errno) {
	if n > len(r.rest) {
		return nil, api.ErrShort
	}
	taken := r.rest[:n]
	r.rest = r.rest[n:]
	return taken, api.OK
}
