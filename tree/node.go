package tree

import (
	"bytes"
	"math"
	"slices"

	"touchmark/api"
)

// node is a page of a tree. On level 0 its entries are those of the tree. Above, an entry is a child: the page on which the keys from the entry's key on are found. The first child has the empty key: from where on its keys are is said further up.
//
// A child may be more than one level below: a level on which a node would have a single child is left out. So each node above level 0 has at least two children, and a tree has more entries than nodes above them; a Delete never needs a page; and still the levels grow from the root alone, and only when the root is full.
type node struct {
	level   int
	entries []entry
}

// entry is a key and its number.
type entry struct {
	key []byte
	n   uint64
}

// find returns where a key is, or else where it would be.
func (n node) find(key []byte) (int, bool) {
	return slices.BinarySearchFunc(n.entries, key, func(x entry, key []byte) int {
		return bytes.Compare(x.key, key)
	})
}

// toward returns the child under which a key is.
func (n node) toward(key []byte) int {
	i, ok := n.find(key)
	if !ok {
		i-- // not below 0: no key is ahead of the first child's, which is empty
	}
	return i
}

// set makes a key's number v.
func (n *node) set(key []byte, v uint64) {
	i, ok := n.find(key)
	if !ok {
		n.entries = slices.Insert(n.entries, i, entry{key: key})
	}
	n.entries[i].n = v
}

// remove takes an entry away. If it was the first child, the next one is first, and takes its keys over.
func (n *node) remove(i int) {
	n.entries = slices.Delete(n.entries, i, i+1)
	if n.level > 0 {
		n.entries[0].key = nil
	}
}

// split leaves the first half of the entries in n, and returns the others and the key from which on they are. Both halves have room on a page, since n has had, but for one entry.
func (n *node) split() (node, []byte) {
	i := n.middle()
	right := node{level: n.level, entries: n.entries[i:]}
	n.entries = n.entries[:i]
	key := right.entries[0].key
	if n.level > 0 {
		right.entries[0].key = nil
		return right, key
	}
	return right, key[:common(n.entries[i-1].key, key)+1]
}

// middle returns where the second half of the entries begins, so that the larger half is as small as can be. If there are two such places, it is the later one: keys that come in ascending order then leave fuller pages behind.
func (n node) middle() int {
	least := 1
	if n.level > 0 {
		least = 2
	}
	best, size := 0, math.MaxInt
	for i := least; i <= len(n.entries)-least; i++ {
		if larger := max(entriesSize(n.entries[:i]), entriesSize(n.entries[i:])); larger <= size {
			best, size = i, larger
		}
	}
	return best
}

// common returns how many bytes two keys begin with in common.
func common(a, b []byte) int {
	n := 0
	for n < len(a) && n < len(b) && a[n] == b[n] {
		n++
	}
	return n
}

// join returns the node of the entries of two, and whether there is one: they must be on the same level, and one page must have room for both. The key is that from which on the right one's are.
func join(left, right node, key []byte) (node, bool) {
	if left.level != right.level {
		return node{}, false
	}
	both := node{level: left.level, entries: slices.Concat(left.entries, right.entries)}
	if both.level > 0 {
		both.entries[len(left.entries)].key = key
	}
	if both.size() > api.BlockSize {
		return node{}, false
	}
	return both, true
}
