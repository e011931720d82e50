package merkle

import "bytes"

// span is a range: the keys from from on and, if end is true, ahead of to.
type span struct {
	from, to []byte
	end      bool
}

func (s span) has(key []byte) bool {
	return bytes.Compare(key, s.from) >= 0 && !s.endsBy(key)
}

// endsBy returns whether all keys of the range are ahead of one.
func (s span) endsBy(key []byte) bool {
	return s.end && bytes.Compare(s.to, key) <= 0
}

// bounds are the nearest nodes on both sides of a subtree, between whose keys its keys are; nil if there is none on a side.
type bounds struct {
	low, high *node
}

// outside returns whether a tree between bounds is outside a range.
func (b bounds) outside(s span) bool {
	return s.endsBy(s.from) ||
		b.high != nil && bytes.Compare(b.high.Key, s.from) <= 0 ||
		b.low != nil && s.endsBy(b.low.Key)
}

// visit goes through a tree from left to right. Of each subtree, enter is told its bounds, and says whether to go on into it; of each node that is gone into, its left subtree is visited, then the node is met, then its right subtree is visited.
func (n *node) visit(at bounds, enter func(*node, bounds) bool, meet func(*node)) {
	if !enter(n, at) || n == nil || n.pruned {
		return
	}
	n.left.visit(bounds{low: at.low, high: n}, enter, meet)
	meet(n)
	n.right.visit(bounds{low: n, high: at.high}, enter, meet)
}

// each meets all nodes of a tree, from left to right.
func (n *node) each(meet func(*node)) {
	n.visit(bounds{}, func(*node, bounds) bool { return true }, meet)
}

// entries returns the entries in a range.
func (n *node) entries(wanted span) []Entry {
	var l []Entry
	n.each(func(n *node) {
		if wanted.has(n.Key) {
			l = append(l, n.Entry.copied())
		}
	})
	return l
}

// ascends returns whether the keys of the nodes are strictly ascending.
func (n *node) ascends() bool {
	var last *node
	ok := true
	n.each(func(n *node) {
		ok = ok && (last == nil || bytes.Compare(last.Key, n.Key) < 0)
		last = n
	})
	return ok
}

// tells returns whether all of a range is known: each tree that is pruned is outside it.
func (n *node) tells(wanted span) bool {
	ok := true
	n.visit(bounds{}, func(n *node, at bounds) bool {
		if n != nil && n.pruned && !at.outside(wanted) {
			ok = false
		}
		return ok
	}, func(*node) {})
	return ok
}
