package tree

import (
	"bytes"

	"touchmark/api"
)

// span is the keys from from on and, if end is true, ahead of to.
type span struct {
	from, to []byte
	end      bool
}

func (s span) has(key []byte) bool {
	return bytes.Compare(key, s.from) >= 0 && !s.endsBy(key)
}

// endsBy returns whether all keys are ahead of one.
func (s span) endsBy(key []byte) bool {
	return s.end && bytes.Compare(s.to, key) <= 0
}

// meets returns whether two spans have keys in common.
func (s span) meets(other span) bool {
	return !s.endsBy(other.from) && !other.endsBy(s.from)
}

// place is where a node hangs in a tree: its page, the level below which it must be, and the keys that it may have. As each node is held against its place, no page is gone to twice on a way down or in a walk, whatever stands on the pages: two places have no keys in common, or else one is under the other, on a lower level.
type place struct {
	page  int
	below int
	span
}

// top returns the place of the root.
func (t *Tree) top() place {
	return place{page: t.root, below: levels}
}

// child returns the place of a child of the node n that hangs at p.
func (p place) child(n node, i int) place {
	c := place{page: int(n.entries[i].n), below: n.level, span: p.span}
	if i > 0 {
		c.from = n.entries[i].key
	}
	if i+1 < len(n.entries) {
		c.to, c.end = n.entries[i+1].key, true
	}
	return c
}

// allows returns whether a node may hang there. Only a root may be without entries.
func (p place) allows(n node) bool {
	if n.level >= p.below || len(n.entries) == 0 && p.below < levels {
		return false
	}
	for i, x := range n.entries {
		if (n.level == 0 || i > 0) && !p.has(x.key) {
			return false
		}
	}
	return true
}

// read returns the node at a place.
func (t *Tree) read(at place) (node, api.Errno) {
	b, e := t.pager.Get(at.page)
	if e != api.OK {
		return node{}, e
	}
	n, ok := nodeIn(b)
	if !ok || !at.allows(n) {
		return node{}, api.ErrForm
	}
	return n, api.OK
}

// step is a node on the way down to a key, and the child that is the next one on the way.
type step struct {
	place
	node
	next int
}

// path returns the way from the root down to the node on level 0 where a key is, if it is anywhere.
func (t *Tree) path(key []byte) ([]step, api.Errno) {
	var path []step
	for at := t.top(); ; {
		n, e := t.read(at)
		if e != api.OK {
			return nil, e
		}
		if n.level == 0 {
			return append(path, step{place: at, node: n}), api.OK
		}
		i := n.toward(key)
		path = append(path, step{place: at, node: n, next: i})
		at = at.child(n, i)
	}
}
