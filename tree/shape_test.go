package tree

import (
	"bytes"
	"fmt"
	"math/rand"
	"slices"
	"strings"
	"testing"

	"touchmark/api"
	"touchmark/disk"
	"touchmark/page"
)

func pagerFor(t *testing.T, pages int) *page.Pager {
	t.Helper()
	d := disk.New(301 + pages)
	if e := page.Format(d, 300); e != api.OK {
		t.Fatal(e)
	}
	p, e := page.Open(d, 300, 100)
	if e != api.OK {
		t.Fatal(e)
	}
	return p
}

// shape is what a tree is made of.
type shape struct {
	pages, entries, height, leaps int // a leap is a child more than one level below
}

// shapeOf counts, and wants less than two pages for an entry.
func shapeOf(t *testing.T, x *Tree) shape {
	t.Helper()
	var s shape
	var visit func(at place)
	visit = func(at place) {
		n, e := x.read(at)
		if e != api.OK {
			t.Fatalf("page %d: %d", at.page, e)
		}
		s.pages++
		s.height = max(s.height, n.level)
		if at.below < levels && n.level+1 < at.below {
			s.leaps++
		}
		if n.level == 0 {
			s.entries += len(n.entries)
			return
		}
		for i := range n.entries {
			visit(at.child(n, i))
		}
	}
	visit(x.top())
	if s.entries > 0 && s.pages > 2*s.entries-1 || s.entries == 0 && s.pages != 1 {
		t.Errorf("%d pages for %d entries", s.pages, s.entries)
	}
	return s
}

// keyOf makes keys of several lengths; those that are alike up to the end make levels with few children.
func keyOf(i int) []byte {
	key := bytes.Repeat([]byte{'a' + byte(i%3)}, []int{90, 90, 12}[i%3])
	return append(key, fmt.Sprintf("%03d", i)...)
}

// The chapter's Words: less than two pages for an entry, whatever is left of a tree; levels with a single child are left out, and come back when they are needed.
func TestShape(t *testing.T) {
	leaps, back := 0, 0
	for seed := range 12 {
		r := rand.New(rand.NewSource(int64(seed)))
		p := pagerFor(t, 600)
		x, _ := Make(p)
		there := map[int]bool{}
		for step := range 1500 {
			i := r.Intn(300)
			if sets := []int{9, 1, 4, 6}[step/150%4]; r.Intn(10) < sets {
				if e := x.Set(keyOf(i), uint64(i)); e != api.OK {
					t.Fatalf("Set: %d", e)
				}
				there[i] = true
			} else if ok, e := x.Delete(keyOf(i)); ok != there[i] || e != api.OK {
				t.Fatalf("Delete: %v, %d", ok, e)
			} else {
				delete(there, i)
			}
			s := shapeOf(t, x)
			if s.entries != len(there) || s.height > 12 {
				t.Fatalf("%d entries, %d levels", s.entries, s.height)
			}
			if leaps > 0 && s.leaps < leaps {
				back++
			}
			leaps = s.leaps
		}
	}
	if back == 0 {
		t.Error("no level was left out and came back")
	}
}

// Levels are won by entries only: leaving few behind does not make a chain of them.
func TestHeight(t *testing.T) {
	p := pagerFor(t, 600)
	x, _ := Make(p)
	next := 0
	for range 400 {
		var mine [][]byte
		for range 6 { // towards the right end, all but one go again
			key := append(bytes.Repeat([]byte{'k'}, 92), fmt.Sprintf("%04d", next)...)
			next++
			mine = append(mine, key)
			if e := x.Set(key, 1); e != api.OK {
				t.Fatalf("Set: %d", e)
			}
		}
		for _, key := range mine[:5] {
			if ok, e := x.Delete(key); !ok || e != api.OK {
				t.Fatalf("Delete: %v, %d", ok, e)
			}
		}
	}
	if s := shapeOf(t, x); s.entries != 400 || s.height > 12 {
		t.Errorf("%d entries on %d levels", s.entries, s.height)
	}
}

// A node is read as it was written, whatever it has, and nothing that has not its form is read as one.
func TestForm(t *testing.T) {
	long := bytes.Repeat([]byte{255}, 96)
	for _, n := range []node{
		{},
		{entries: []entry{{[]byte{}, 0}}},
		{entries: []entry{{[]byte{0}, 1 << 63}, {[]byte{0, 0}, 1}, {long, 1<<64 - 1}}},
		{level: 1, entries: []entry{{[]byte{}, 7}, {[]byte{1}, 8}}},
		{level: levels - 1, entries: []entry{{[]byte{}, 7}, {[]byte("b"), 8}, {long, 9}}},
	} {
		got, ok := nodeIn(n.block())
		if !ok || got.level != n.level || !slices.EqualFunc(got.entries, n.entries, func(a, b entry) bool { return bytes.Equal(a.key, b.key) && a.n == b.n }) {
			t.Errorf("%v was read as %v, %v", n, got, ok)
		}
	}
	bad := []node{
		{level: -1},
		{level: levels, entries: []entry{{nil, 1}, {[]byte("a"), 2}}},
		{level: 254, entries: []entry{{nil, 1}, {[]byte("a"), 2}}},
		{level: 1},
		{level: 1, entries: []entry{{nil, 1}}},
		{level: 1, entries: []entry{{[]byte("a"), 1}, {[]byte("b"), 2}}},
		{entries: []entry{{[]byte("a"), 1}, {[]byte("a"), 2}}},
		{entries: []entry{{[]byte("b"), 1}, {[]byte("a"), 2}}},
		{entries: []entry{{[]byte("a"), 1}, {nil, 2}}},
		{level: 2, entries: []entry{{nil, 1}, {[]byte("b"), 2}, {[]byte("b"), 3}}},
		{entries: []entry{{bytes.Repeat([]byte{1}, 97), 1}}},
	}
	for _, n := range bad {
		if got, ok := nodeIn(n.block()); ok {
			t.Errorf("%v was read as %v", n, got)
		}
	}
	for b1 := range 256 { // more entries than there are, or keys that reach behind the page
		for _, b2 := range []byte{0, 96, 97, 244, 245, 246, 247, 255} {
			if n, ok := nodeIn(disk.Block{1, byte(b1), b2}); ok && (b1 > 1 || b1 == 1 && b2 > 96) {
				t.Errorf("%d, %d: %v", b1, b2, n)
			}
		}
	}
}

// treeOf puts nodes on the pages from 1 on and returns a tree with the last one as its root.
func treeOf(t *testing.T, p *page.Pager, nodes ...node) *Tree {
	t.Helper()
	x := Open(p, 0)
	for _, n := range nodes {
		at, e := x.add(n)
		if e != api.OK {
			t.Fatal(e)
		}
		x.root = at
	}
	return x
}

func wantForm(t *testing.T, x *Tree, key string) {
	t.Helper()
	if v, ok, e := x.Get([]byte(key)); v != 0 || ok || e != api.ErrForm {
		t.Errorf("Get: %d, %v, %d", v, ok, e)
	}
	if e := x.Set([]byte(key), 1); e != api.ErrForm {
		t.Errorf("Set: %d", e)
	}
	if ok, e := x.Delete([]byte(key)); ok || e != api.ErrForm {
		t.Errorf("Delete: %v, %d", ok, e)
	}
	if e := x.Drop(); e != api.ErrForm {
		t.Errorf("Drop: %d", e)
	}
}

func count(x *Tree) int {
	n := 0
	for range x.All(nil, nil, false) {
		n++
	}
	return n
}

// P6.5: pages that lead to each other more often than could ever be gone through.
func TestManyWays(t *testing.T) {
	p := pagerFor(t, 100)
	nodes := []node{{entries: []entry{{[]byte("a"), 1}}}}
	for level := 1; level < levels; level++ {
		at := uint64(level)
		nodes = append(nodes, node{level: level, entries: []entry{{nil, at}, {[]byte{byte(level)}, at}, {[]byte{200}, at}}})
	}
	x := treeOf(t, p, nodes...)
	before := p.Changed()
	if n := count(x); n > 100 {
		t.Errorf("%d entries", n)
	}
	for k := range x.All([]byte("a"), []byte("b"), true) {
		t.Errorf("%q", k)
	}
	wantForm(t, x, "\x01")
	if p.Changed() != before {
		t.Error("pages are changed")
	}
}

// P6.5: pages that lead to themselves, in one step or in several.
func TestRounds(t *testing.T) {
	p := pagerFor(t, 100)
	pair := func(level int, a, b uint64) node {
		return node{level: level, entries: []entry{{nil, a}, {[]byte("m"), b}}}
	}
	wantForm(t, treeOf(t, p, pair(1, 1, 1)), "a")
	wantForm(t, treeOf(t, p, pair(2, 3, 3), pair(2, 2, 2)), "z")
	wantForm(t, treeOf(t, p, pair(3, 6, 6), pair(4, 4, 4), pair(5, 5, 5)), "z")
	if n := count(Open(p, 1)) + count(Open(p, 2)) + count(Open(p, 6)); n > 0 {
		t.Errorf("%d entries", n)
	}
}

// P6.5: children whose keys are not those of their place, that are without entries, that are too high up, or that don't exist.
func TestMisplacedChildren(t *testing.T) {
	leaf := func(keys ...string) node {
		var n node
		for _, k := range keys {
			n.entries = append(n.entries, entry{[]byte(k), 1})
		}
		return n
	}
	above := func(level int) node {
		return node{level: level, entries: []entry{{nil, 1}, {[]byte("h"), 2}, {[]byte("p"), 3}}}
	}
	good := []node{leaf("a", "g"), leaf("h", "o"), leaf("p", "z")}
	if x := treeOf(t, pagerFor(t, 9), append(good, above(5))...); count(x) != 6 {
		t.Errorf("%d entries", count(x))
	}
	for i, bad := range []node{
		leaf("g", "h"), leaf("o", "p"), leaf("a"), leaf("z"), leaf("ha", "q"), leaf(), leaf("", "k"),
		{level: 1, entries: []entry{{nil, 1}, {[]byte("g"), 3}}},
		{level: 1, entries: []entry{{nil, 1}, {[]byte("p"), 3}}},
		{level: 5, entries: []entry{{nil, 1}, {[]byte("k"), 3}}},
		{level: 6, entries: []entry{{nil, 1}, {[]byte("k"), 3}}},
	} {
		x := treeOf(t, pagerFor(t, 9), good[0], bad, good[2], above(5))
		if n := count(x); n != 2 {
			t.Errorf("child %d: %d entries", i, n)
		}
		wantForm(t, x, "k")
		if ok, e := x.Delete([]byte("a")); ok || e != api.ErrForm { // its neighbour can't be joined with it
			t.Errorf("child %d: Delete: %v, %d", i, ok, e)
		}
	}
	x := treeOf(t, pagerFor(t, 9), good[0], good[1], node{level: 1, entries: []entry{{nil, 1}, {[]byte("h"), 2}, {[]byte("p"), 1 << 63}}})
	if _, _, e := x.Get([]byte("q")); e != api.ErrRange {
		t.Errorf("Get: %d", e)
	}
	if n := count(x); n != 4 {
		t.Errorf("%d entries", n)
	}
}

// leafOf is a node of three entries that takes so many bytes of a page; its keys begin with a letter.
func leafOf(letter string, size int) node {
	var n node
	left := size - headBytes - 3*entryBytes
	for i, end := range []string{"a", "b", "c"} {
		length := left / (3 - i)
		left -= length
		n.entries = append(n.entries, entry{[]byte(letter + end + strings.Repeat("-", length-2)), 1})
	}
	return n
}

// A leaf is split only when its page has no room.
func TestLastRoom(t *testing.T) {
	for size, pages := range map[int]int{244: 1, 245: 1, 246: 3, 247: 3} {
		x := treeOf(t, pagerFor(t, 9), leafOf("a", size))
		if e := x.Set([]byte("ad"), 1); e != api.OK {
			t.Errorf("Set: %d", e)
		}
		if s := shapeOf(t, x); s.pages != pages || s.entries != 4 {
			t.Errorf("%d bytes: %v", size, s)
		}
	}
}

// The halves of a node that was full have room, and above level 0 two children each; the key between them tells them apart.
func TestHalves(t *testing.T) {
	r := rand.New(rand.NewSource(9))
	lengths := [][]int{{96}, {1}, {1, 96}, {1, 1, 1, 1, 1, 1, 96}, {90, 1}, {40, 41, 42}, {1, 20, 60, 96}}
	for run := range 20000 {
		n := node{level: run % 2}
		if n.level > 0 {
			n.entries = []entry{{nil, 1}}
		}
		some := lengths[r.Intn(len(lengths))]
		var keys []int // how long they are
		for size := n.size(); size <= api.BlockSize; size += entryBytes + keys[len(keys)-1] {
			keys = append(keys, some[r.Intn(len(some))])
		}
		r.Shuffle(len(keys), func(i, j int) { keys[i], keys[j] = keys[j], keys[i] })
		for i, length := range keys {
			n.entries = append(n.entries, entry{bytes.Repeat([]byte{byte(i)}, length), 1})
		}
		was := slices.Clone(n.entries)
		right, key := n.split()
		least := 1 + n.level
		if n.size() > api.BlockSize || right.size() > api.BlockSize || len(n.entries) < least || len(right.entries) < least {
			t.Fatalf("%v: %d and %d bytes, %d and %d entries", was, n.size(), right.size(), len(n.entries), len(right.entries))
		}
		if next := was[len(n.entries)].key; len(n.entries)+len(right.entries) != len(was) || !bytes.HasPrefix(next, key) || n.level > 0 && len(key) != len(next) {
			t.Fatalf("%v: %d and %d entries, %q", was, len(n.entries), len(right.entries), key)
		}
	}
}

// After a Delete, a node is joined with its left neighbour or its right one as soon as one page has room for both.
func TestJoins(t *testing.T) {
	for _, c := range []struct {
		sizes []int // as they are after the Delete
		at    int   // where the key is deleted
		pages int
	}{
		{[]int{245, 245, 245}, 1, 4},
		{[]int{128, 130, 250}, 1, 3},
		{[]int{128, 131, 250}, 1, 4},
		{[]int{250, 130, 128}, 1, 3},
		{[]int{250, 131, 128}, 1, 4},
		{[]int{100, 100, 100}, 1, 3},
		{[]int{128, 130, 250}, 0, 3},
		{[]int{128, 131, 250}, 0, 4},
		{[]int{128, 250, 128}, 0, 4},
		{[]int{250, 130, 128}, 2, 3},
		{[]int{250, 131, 128}, 2, 4},
		{[]int{128, 130}, 0, 1},
		{[]int{130, 128}, 1, 1},
		{[]int{130, 129}, 1, 3},
	} {
		var nodes []node
		root := node{level: 1}
		for i, letter := range []string{"a", "h", "p"}[:len(c.sizes)] {
			n := leafOf(letter, c.sizes[i])
			if i == c.at {
				n.entries = append(n.entries, entry{[]byte(letter + "d"), 1})
			}
			nodes = append(nodes, n)
			root.entries = append(root.entries, entry{[]byte(letter), uint64(i + 1)})
		}
		root.entries[0].key = nil
		x := treeOf(t, pagerFor(t, 9), append(nodes, root)...)
		if ok, e := x.Delete([]byte([]string{"ad", "hd", "pd"}[c.at])); !ok || e != api.OK {
			t.Errorf("Delete: %v, %d", ok, e)
		}
		if s := shapeOf(t, x); s.pages != c.pages || s.entries != 3*len(c.sizes) {
			t.Errorf("%v: %v", c, s)
		}
	}
}

// The keys above level 0 are no longer than is needed to tell the nodes apart.
func TestShortKeysAbove(t *testing.T) {
	p := pagerFor(t, 600)
	x, _ := Make(p)
	for i := range 200 {
		key := append([]byte{byte(i * 67)}, bytes.Repeat([]byte{'-'}, 95)...)
		if e := x.Set(key, 1); e != api.OK {
			t.Fatalf("Set: %d", e)
		}
	}
	leaves := 0
	var visit func(at place)
	visit = func(at place) {
		n, _ := x.read(at)
		if n.level == 0 {
			leaves++
			return
		}
		for i := range n.entries {
			visit(at.child(n, i))
		}
	}
	visit(x.top())
	if s := shapeOf(t, x); s.entries != 200 || s.pages > leaves+leaves/5 {
		t.Errorf("%d pages, %d of them on level 0", s.pages, leaves)
	}
}

// All reads no more pages than those on which the range may be.
func TestAllReadsNoMore(t *testing.T) {
	d := disk.New(900)
	page.Format(d, 300)
	p, _ := page.Open(d, 300, 0)
	x, _ := Make(p)
	for i := range 300 {
		x.Set(keyOf(i), 1)
	}
	if e := p.Commit(); e != api.OK {
		t.Fatal(e)
	}
	height := shapeOf(t, x).height
	for i := range 300 {
		q, _ := page.Open(d, 300, 1000)
		n := 0
		for range Open(q, x.Root()).All(keyOf(i), append(keyOf(i), 0), true) {
			n++
		}
		if held := q.Held(); n != 1 || held > height+1 {
			t.Errorf("%q: %d entries, %d pages of %d levels", keyOf(i), n, held, height+1)
		}
	}
}
