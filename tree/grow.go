package tree

import "touchmark/api"

// grow makes a change of the last node of a path, which is split in two if its page has no room for it any more.
func (t *Tree) grow(path []step, change func(*node)) api.Errno {
	up, last := path[:len(path)-1], path[len(path)-1]
	n := last.node
	change(&n)
	if n.size() <= api.BlockSize {
		return t.write(last.page, n)
	}
	right, key := n.split()
	second, e := t.add(right)
	if e != api.OK {
		return e
	}
	if len(up) == 0 {
		return t.raise(n, key, second)
	}
	if e := t.write(last.page, n); e != api.OK {
		return e
	}
	above := up[len(up)-1]
	if above.level == n.level+1 {
		return t.grow(up, func(parent *node) { parent.set(key, uint64(second)) })
	}
	both, e := t.add(parentOf(n.level, last.page, key, second))
	if e != api.OK {
		return e
	}
	return t.grow(up, func(parent *node) { parent.entries[above.next].n = uint64(both) })
}

// raise makes the root the parent of its first half, which moves to another page, and of the second.
func (t *Tree) raise(half node, key []byte, second int) api.Errno {
	first, e := t.add(half)
	if e != api.OK {
		return e
	}
	return t.write(t.root, parentOf(half.level, first, key, second))
}

// parentOf returns the node above two on a level, the second of which has the keys from key on.
func parentOf(level, first int, key []byte, second int) node {
	return node{level: level + 1, entries: []entry{{n: uint64(first)}, {key: key, n: uint64(second)}}}
}

// add puts a node on a page that nobody uses, and returns the page.
func (t *Tree) add(n node) (int, api.Errno) {
	at, e := t.pager.Alloc()
	if e != api.OK {
		return 0, e
	}
	if e := t.write(at, n); e != api.OK {
		return 0, e
	}
	return at, api.OK
}

func (t *Tree) write(at int, n node) api.Errno {
	return t.pager.Put(at, n.block())
}
