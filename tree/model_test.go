package tree_test

import (
	"encoding/binary"
	"fmt"
	"maps"
	"math/rand"
	"slices"
	"strings"
	"testing"

	"touchmark/api"
	"touchmark/disk"
	"touchmark/page"
	"touchmark/tree"
)

// family is a kind of keys; it makes one out of a random number.
type family struct {
	name string
	key  func(r *rand.Rand) string
}

// families are kinds of keys that make different trees: of short and of long ones, of the same length and of many, of ones that differ early and late.
func families() []family {
	long := strings.Repeat("p", 94)
	return []family{
		{"short", func(r *rand.Rand) string { return any(r, r.Intn(5), 3) }},
		{"of 8 bytes", func(r *rand.Rand) string {
			return string(binary.BigEndian.AppendUint64(nil, uint64(r.Intn(600))))
		}},
		{"of 96 bytes that differ at the end", func(r *rand.Rand) string { return long + fmt.Sprintf("%02x", r.Intn(256)) }},
		{"of 96 bytes that differ at the beginning", func(r *rand.Rand) string { return fmt.Sprintf("%02x", r.Intn(256)) + long }},
		{"of any length", func(r *rand.Rand) string { return any(r, r.Intn(97), 256) }},
		{"prefixes of each other", func(r *rand.Rand) string { return strings.Repeat("a", r.Intn(96)) + any(r, r.Intn(2), 1) }},
		{"short and long", func(r *rand.Rand) string {
			if r.Intn(3) > 0 {
				return any(r, r.Intn(4), 4)
			}
			return any(r, 2, 4) + long
		}},
	}
}

// any is a key of n bytes, of so many different ones, but of at most 96.
func any(r *rand.Rand, n, kinds int) string {
	b := make([]byte, min(n, 96))
	for i := range b {
		b[i] = byte(r.Intn(kinds))
	}
	return string(b)
}

// pair is a tree, its pager, and what must be in it.
type pair struct {
	family
	r          *rand.Rand
	d          *disk.Disk
	p          *page.Pager
	x          *tree.Tree
	root       int // as it was at the last Commit
	saved, now map[string]uint64
}

func newPair(t *testing.T, f family, r *rand.Rand) *pair {
	t.Helper()
	d, p := newPager(t, 800)
	m := &pair{family: f, r: r, d: d, p: p, x: newTree(t, p), now: map[string]uint64{}}
	m.commit(t)
	return m
}

func (m *pair) commit(t *testing.T) {
	t.Helper()
	wantErr(t, "Commit", m.p.Commit(), api.OK)
	m.saved, m.root = maps.Clone(m.now), m.x.Root()
}

// anyKey is often one that is there.
func (m *pair) anyKey() string {
	if keys := slices.Sorted(maps.Keys(m.now)); len(keys) > 0 && m.r.Intn(2) == 0 {
		return keys[m.r.Intn(len(keys))]
	}
	return m.key(m.r)
}

// change sets or deletes a key; of ten calls, so many set one.
func (m *pair) change(t *testing.T, sets int) {
	t.Helper()
	if m.r.Intn(10) < sets {
		k, v := m.key(m.r), m.r.Uint64()>>m.r.Intn(64)
		set(t, m.x, k, v)
		m.now[k] = v
		wantGet(t, m.x, k, v)
		return
	}
	k := m.anyKey()
	_, was := m.now[k]
	wantDelete(t, m.x, k, was)
	delete(m.now, k)
	wantNone(t, m.x, k)
}

// look compares a key, or a range.
func (m *pair) look(t *testing.T) {
	t.Helper()
	k := m.anyKey()
	if v, ok, e := m.x.Get([]byte(k)); v != m.now[k] || e != api.OK {
		t.Errorf("Get(%q): %d, %v, %d, want %d", k, v, ok, e, m.now[k])
	}
	from, to, end := m.anyKey(), m.anyKey(), m.r.Intn(2) == 0
	var want []string
	for _, k := range slices.Sorted(maps.Keys(m.now)) {
		if k >= from && (!end || k < to) {
			want = append(want, told(k, m.now[k]))
		}
	}
	wantEntries(t, m.x, from, to, end, want...)
}

// turn makes the changes permanent or takes them back, or opens the tree again.
func (m *pair) turn(t *testing.T) {
	t.Helper()
	switch m.r.Intn(4) {
	case 0:
		m.commit(t)
		m.d.Up(nil, -1) // the power fails: what was committed lasts
		m.p = openPager(t, m.d, m.r.Intn(30))
		m.x = tree.Open(m.p, m.root)
	case 1:
		m.commit(t)
	case 2:
		m.p.Abort()
		m.now, m.x = maps.Clone(m.saved), tree.Open(m.p, m.root)
	case 3:
		m.x = tree.Open(m.p, m.x.Root())
	}
}

// checkPages holds the pages that the tree uses against the chapter's bound. They are counted by another pager, which leaves the disk as it is.
func (m *pair) checkPages(t *testing.T) {
	t.Helper()
	m.commit(t)
	if used := 800 - room(openPager(t, m.d, 0)); used > 4*len(m.now)+8 {
		t.Errorf("%d pages for %d entries", used, len(m.now))
	}
}

// P6.1 to P6.4: random calls have the results of the chapter's words, while the tree grows and while it shrinks, and no page is lost.
func TestModel(t *testing.T) {
	for i, f := range families() {
		t.Run(f.name, func(t *testing.T) {
			m := newPair(t, f, rand.New(rand.NewSource(int64(i))))
			for step := range 2400 {
				sets := []int{8, 5, 1}[step/200%3]
				m.change(t, sets)
				if step%5 == 0 {
					m.look(t)
				}
				if step%60 == 59 {
					m.turn(t)
				}
				if step%100 == 99 {
					wantContents(t, m.x, m.now)
					m.checkPages(t)
				}
				if t.Failed() {
					t.Fatalf("step %d", step)
				}
			}
			wantErr(t, "Drop", m.x.Drop(), api.OK)
			if n := room(m.p); n != 800 {
				t.Errorf("%d pages are left of 800", n)
			}
		})
	}
}

// P6.6: the entries are the same in whatever order they were added, and whatever was there meanwhile.
func TestOrderOfAdding(t *testing.T) {
	for i, f := range families() {
		r := rand.New(rand.NewSource(int64(100 + i)))
		want := map[string]uint64{}
		for range 150 {
			want[f.key(r)] = r.Uint64()
		}
		keys := slices.Sorted(maps.Keys(want))
		backward := slices.Clone(keys)
		slices.Reverse(backward)
		for run := range 8 {
			order := keys
			if run == 1 {
				order = backward
			} else if run > 1 {
				order = slices.Clone(keys)
				r.Shuffle(len(order), func(i, j int) { order[i], order[j] = order[j], order[i] })
			}
			_, p := newPager(t, 700)
			x := newTree(t, p)
			for _, k := range order {
				extra := f.key(r)
				set(t, x, extra, 1)
				set(t, x, k, want[k])
				if _, ok := want[extra]; !ok {
					wantDelete(t, x, extra, true)
				}
			}
			for _, k := range order {
				set(t, x, k, want[k]) // an extra one may have been one of them
			}
			wantContents(t, x, want)
		}
	}
}

// The chapter's first paragraph: changes last only from the pager's Commit on.
func TestPermanence(t *testing.T) {
	d, p := newPager(t, 300)
	x := newTree(t, p)
	want := map[string]uint64{}
	for i := range 80 {
		key := fmt.Sprintf("%0*d", 2+i, i)
		set(t, x, key, uint64(i))
		want[key] = uint64(i)
	}
	root := x.Root()
	wantErr(t, "Commit", p.Commit(), api.OK)
	spoil := func(x *tree.Tree) {
		for i := range 80 {
			wantDelete(t, x, fmt.Sprintf("%0*d", 2+i, i), true)
			set(t, x, fmt.Sprintf("%0*d", 9+i, i), 7)
		}
	}
	spoil(x)
	wantContents(t, tree.Open(openPager(t, d, 5), root), want)
	p.Abort()
	wantContents(t, tree.Open(p, root), want)
	wantErr(t, "Drop", tree.Open(p, root).Drop(), api.OK)
	p.Abort()
	wantContents(t, tree.Open(p, root), want)
	spoil(tree.Open(p, root))
	d.Up(nil, -1)
	wantContents(t, tree.Open(openPager(t, d, 5), root), want)
}
