package tree

import (
	"slices"

	"touchmark/api"
)

// shrink makes a change of the last node of a path after which it may be too small. Then it is joined with a neighbour if one page has room for both; else, without entries, it goes, and with a single child it leaves its place to that.
func (t *Tree) shrink(path []step, change func(*node)) api.Errno {
	up, last := path[:len(path)-1], path[len(path)-1]
	n := last.node
	change(&n)
	if len(up) == 0 {
		return t.lower(n)
	}
	if done, e := t.joinNeighbour(up, n); done || e != api.OK {
		return e
	}
	above := up[len(up)-1]
	switch {
	case len(n.entries) == 0:
		return t.leave(last.page, up, func(parent *node) { parent.remove(above.next) })
	case len(n.entries) == 1 && n.level > 0:
		return t.leave(last.page, up, func(parent *node) { parent.entries[above.next].n = n.entries[0].n })
	}
	return t.write(last.page, n)
}

// leave returns a page to the pager, and makes the change of the node above that goes with it.
func (t *Tree) leave(page int, up []step, change func(*node)) api.Errno {
	if e := t.pager.Free(page); e != api.OK {
		return e
	}
	return t.shrink(up, change)
}

// joinNeighbour joins n, the next node behind a path, with the one on its left or on its right, and returns whether it could.
func (t *Tree) joinNeighbour(up []step, n node) (bool, api.Errno) {
	above := up[len(up)-1]
	for _, i := range []int{above.next - 1, above.next + 1} {
		if i < 0 || i >= len(above.entries) {
			continue
		}
		neighbour, e := t.read(above.child(above.node, i))
		if e != api.OK {
			return false, e
		}
		pair := []node{neighbour, n}
		if i > above.next {
			slices.Reverse(pair)
		}
		right := max(i, above.next)
		both, ok := join(pair[0], pair[1], above.entries[right].key)
		if !ok {
			continue
		}
		if e := t.write(int(above.entries[right-1].n), both); e != api.OK {
			return false, e
		}
		return true, t.leave(int(above.entries[right].n), up, func(parent *node) { parent.remove(right) })
	}
	return false, api.OK
}

// lower writes the root. Instead of a single child, it becomes that.
func (t *Tree) lower(root node) api.Errno {
	if root.level == 0 || len(root.entries) > 1 {
		return t.write(t.root, root)
	}
	at := t.top().child(root, 0)
	child, e := t.read(at)
	if e != api.OK {
		return e
	}
	if e := t.write(t.root, child); e != api.OK {
		return e
	}
	return t.pager.Free(at.page)
}
