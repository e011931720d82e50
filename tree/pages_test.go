package tree_test

import (
	"fmt"
	"maps"
	"math/rand"
	"slices"
	"strings"
	"testing"

	"touchmark/api"
	"touchmark/page"
	"touchmark/tree"
)

// orders are ways to go through n things.
func orders(n int) [][]int {
	var up, down, inward, steps []int
	for i := range n {
		up = append(up, i)
		down = append(down, n-1-i)
		if i%2 == 0 {
			inward = append(inward, i/2)
		} else {
			inward = append(inward, n-1-i/2)
		}
	}
	for start := range 7 {
		for i := start; i < n; i += 7 {
			steps = append(steps, i)
		}
	}
	outward := slices.Clone(inward)
	slices.Reverse(outward)
	return [][]int{up, down, inward, outward, steps, rand.New(rand.NewSource(int64(n))).Perm(n)}
}

// longKeys are n keys of 96 bytes, in order, that differ at their ends only.
func longKeys(n int) []string {
	var keys []string
	for i := range n {
		keys = append(keys, strings.Repeat("k", 92)+fmt.Sprintf("%04d", i))
	}
	return keys
}

// The chapter's Words: n entries have room if there are 4 n + 8 pages, after each call; without entries there are 8.
func TestBound(t *testing.T) {
	for _, n := range []int{0, 1, 2, 3, 4, 5, 8, 13, 40, 120} {
		keys := longKeys(n)
		for _, order := range orders(n) {
			_, p := newPager(t, 4*n+8)
			x := newTree(t, p)
			for i, k := range order {
				set(t, x, keys[k], uint64(k))
				wantUsed(t, p, 4*n+8, i+1)
			}
			for i, k := range order {
				wantDelete(t, x, keys[k], true)
				wantUsed(t, p, 4*n+8, n-i-1)
			}
			wantErr(t, "Drop", x.Drop(), api.OK)
			if room(p) != 4*n+8 {
				t.Errorf("%d pages are left of %d", room(p), 4*n+8)
			}
		}
	}
}

// wantUsed holds the pages of a tree with n entries against the bound.
func wantUsed(t *testing.T, p *page.Pager, pages, n int) {
	t.Helper()
	if used := pages - room(p); used > 4*n+8 {
		t.Errorf("%d pages for %d entries", used, n)
	}
}

// P6.4: Drop returns the pages of a tree of any size, and those of others stay.
func TestDrop(t *testing.T) {
	for _, n := range []int{0, 1, 2, 3, 10, 100} {
		_, p := newPager(t, 500)
		other := newTree(t, p)
		want := map[string]uint64{}
		for _, k := range longKeys(20) {
			set(t, other, k, 1)
			want[k] = 1
		}
		before := room(p)
		x := newTree(t, p)
		for i, k := range longKeys(n) {
			set(t, x, k, uint64(i))
			if _, ok := want[k]; ok {
				set(t, other, k, 2)
				want[k] = 2
			}
		}
		wantErr(t, "Drop", x.Drop(), api.OK)
		if room(p) != before {
			t.Errorf("%d entries: %d pages are left, want %d", n, room(p), before)
		}
		wantContents(t, other, want)
		wantErr(t, "Drop", other.Drop(), api.OK)
		if room(p) != 500 {
			t.Errorf("%d pages are left", room(p))
		}
	}
}

// P6.4: a tree whose entries are all deleted has no more pages than a new one may have, and they are had back by Drop.
func TestEmptiedTrees(t *testing.T) {
	keys := longKeys(200)
	for _, order := range orders(len(keys)) {
		_, p := newPager(t, 500)
		x := newTree(t, p)
		for i := range keys {
			set(t, x, keys[i*77%len(keys)], 1)
		}
		for _, k := range order {
			wantDelete(t, x, keys[k], true)
		}
		wantEntries(t, x, "", "", false)
		wantUsed(t, p, 500, 0)
		set(t, x, "again", 4)
		wantEntries(t, x, "", "", false, told("again", 4))
		wantErr(t, "Drop", x.Drop(), api.OK)
		if room(p) != 500 {
			t.Errorf("%d pages are left", room(p))
		}
	}
}

// full is a pager without a free page, and a tree on it whose keys are the ones that could be set; all is committed.
func full(t *testing.T, pages int, r *rand.Rand, f family) *pair {
	t.Helper()
	d, p := newPager(t, pages)
	m := &pair{family: f, r: r, d: d, p: p, x: newTree(t, p), now: map[string]uint64{}}
	m.commit(t)
	for tries := 0; tries < 3000 && room(p) > 0; tries++ {
		k, v := f.key(r), r.Uint64()
		switch e := m.x.Set([]byte(k), v); e {
		case api.OK:
			m.now[k] = v
			m.commit(t)
		case api.ErrFull:
			m.back(t)
		default:
			t.Fatalf("Set: %d", e)
		}
	}
	for room(p) > 0 {
		p.Alloc()
	}
	m.commit(t)
	return m
}

// back takes a change back that failed, and opens the tree as the chapter asks.
func (m *pair) back(t *testing.T) {
	t.Helper()
	m.p.Abort()
	m.now, m.x = maps.Clone(m.saved), tree.Open(m.p, m.root)
	wantContents(t, m.x, m.now)
}

// P6.5: a Set that needs a page that isn't there returns ErrFull; a key that is there can be set all the same, and every key can be deleted.
func TestFullDisk(t *testing.T) {
	for i, f := range families() {
		refused := 0
		for _, pages := range []int{1, 3, 5, 10, 30} {
			m := full(t, pages, rand.New(rand.NewSource(int64(200+i))), f)
			refused += m.fillOn(t)
			for k := range m.now {
				set(t, m.x, k, 6)
			}
			keys := slices.Sorted(maps.Keys(m.now))
			for _, k := range orders(len(keys))[i%6] {
				wantDelete(t, m.x, keys[k], true)
			}
			wantEntries(t, m.x, "", "", false)
		}
		if refused == 0 {
			t.Errorf("%s: no Set was refused", f.name)
		}
	}
}

// fillOn sets keys though there is no page any more, and returns how many could not be set.
func (m *pair) fillOn(t *testing.T) int {
	t.Helper()
	refused := 0
	for range 100 {
		k := m.key(m.r)
		_, was := m.now[k]
		switch e := m.x.Set([]byte(k), 5); {
		case e == api.OK:
			m.now[k] = 5
			m.commit(t)
		case e == api.ErrFull && !was:
			refused++
			m.back(t)
		default:
			t.Errorf("%s: Set(%q): %d; there already: %v", m.name, k, e, was)
		}
	}
	return refused
}
