package tree_test

import (
	"fmt"
	"math"
	"math/rand"
	"slices"
	"testing"

	"touchmark/api"
	"touchmark/disk"
	"touchmark/page"
	"touchmark/tree"
)

// forest is a committed tree of so many long keys on 200 pages; the key number i has the number i.
func forest(t *testing.T, n int) (*disk.Disk, *tree.Tree, []string, map[string]uint64) {
	t.Helper()
	d, p := newPager(t, 200)
	x := newTree(t, p)
	want := map[string]uint64{}
	keys := longKeys(n)
	for _, i := range orders(n)[4] {
		set(t, x, keys[i], uint64(i))
		want[keys[i]] = uint64(i)
	}
	wantErr(t, "Commit", p.Commit(), api.OK)
	return d, x, keys, want
}

// fail lets the disk go down now.
func fail(d *disk.Disk) {
	d.Arm(0)
	d.Sync()
}

// half is a pager that holds some of the pages of a tree, on a disk that is down.
func half(t *testing.T, d *disk.Disk, root, hold int, warm []string) *page.Pager {
	t.Helper()
	p := openPager(t, d, hold)
	for _, k := range warm {
		tree.Open(p, root).Get([]byte(k))
	}
	fail(d)
	return p
}

// P6.5: a page that can't be read: the pager's error, and nothing beside it; with the disk up again, the tree is as it was.
func TestDown(t *testing.T) {
	d, x, keys, want := forest(t, 60)
	root := x.Root()
	r := rand.New(rand.NewSource(6))
	down := map[string]int{}
	for run := range 600 {
		i := r.Intn(len(keys))
		k := []byte(keys[i])
		warm := keys[max(0, i-r.Intn(5)):min(len(keys), i+r.Intn(5))]
		p := half(t, d, root, r.Intn(40), warm)
		y := tree.Open(p, root)
		var e api.Errno
		switch what := []string{"Get", "Set", "Set of a new key", "Delete", "Drop"}[run%5]; what {
		case "Get":
			var v uint64
			var ok bool
			if v, ok, e = y.Get(k); e == api.OK && (v != uint64(i) || !ok) || e != api.OK && (v != 0 || ok) {
				t.Errorf("Get: %d, %v, %d", v, ok, e)
			}
			note(t, down, what, e)
		case "Set":
			note(t, down, what, y.Set(k, 7))
		case "Set of a new key":
			note(t, down, what, y.Set(k[:95], 7))
		case "Delete":
			ok, e := y.Delete(k)
			if ok != (e == api.OK) {
				t.Errorf("Delete: %v, %d", ok, e)
			}
			note(t, down, what, e)
		case "Drop":
			note(t, down, what, y.Drop())
		}
		d.Up(nil, -1)
		if run%20 == 0 {
			wantContents(t, tree.Open(openPager(t, d, 9), root), want)
		}
	}
	for _, what := range []string{"Get", "Set", "Set of a new key", "Delete"} {
		if down[what] == 0 || down[what] == 120 {
			t.Errorf("%s: %d errors of 120", what, down[what])
		}
	}
	if down["Drop"] != 120 { // no pager here has all pages
		t.Errorf("Drop: %d errors of 120", down["Drop"])
	}
}

// note counts an error, and takes none but ErrDown.
func note(t *testing.T, down map[string]int, what string, e api.Errno) {
	t.Helper()
	if e == api.ErrDown {
		down[what]++
	} else if e != api.OK {
		t.Errorf("%s: %d", what, e)
	}
}

// P6.5: an iterator stops at the first page that can't be read.
func TestAllStopsWhenDown(t *testing.T) {
	d, x, keys, _ := forest(t, 60)
	var all []string
	for i, k := range keys {
		all = append(all, told(k, uint64(i)))
	}
	some := 0
	for warm := range len(keys) {
		p := half(t, d, x.Root(), 40, []string{keys[0], keys[warm]})
		got := entries(tree.Open(p, x.Root()), "", "", false)
		if len(got) == 0 || len(got) >= len(all) || !slices.Equal(got, all[:len(got)]) {
			t.Errorf("warm %d: %q", warm, got)
		}
		d.Up(nil, -1)
		p = half(t, d, x.Root(), 40, []string{keys[warm]})
		if got := entries(tree.Open(p, x.Root()), keys[warm], "", false); len(got) > 0 {
			some++
			if !slices.Equal(got, all[warm:warm+len(got)]) {
				t.Errorf("from %d: %q", warm, got)
			}
		}
		d.Up(nil, -1)
	}
	if some != len(keys) {
		t.Errorf("%d of %d had an entry", some, len(keys))
	}
}

// P6.5: the disk goes down amid All: what is yielded then is a beginning of the entries.
func TestDownAmidAll(t *testing.T) {
	d, x, keys, _ := forest(t, 60)
	for at := 1; at < 60; at += 7 {
		var got []string
		for k, v := range tree.Open(openPager(t, d, 0), x.Root()).All(nil, nil, false) {
			if got = append(got, told(string(k), v)); len(got) == at {
				fail(d)
			}
		}
		if len(got) < at || len(got) > at+28 || !slices.Equal(got, between(keys, "", "", false)[:len(got)]) {
			t.Errorf("down at %d: %q", at, got)
		}
		d.Up(nil, -1)
	}
}

// wantNothing wants an error of all calls but All, which yields nothing; and no page is changed.
func wantNothing(t *testing.T, p *page.Pager, root int, want api.Errno) {
	t.Helper()
	x := tree.Open(p, root)
	for _, key := range [][]byte{nil, []byte("a"), make([]byte, 96)} {
		if v, ok, e := x.Get(key); v != 0 || ok || e != want {
			t.Errorf("root %d: Get: %d, %v, %d, want %d", root, v, ok, e, want)
		}
		wantErr(t, fmt.Sprintf("root %d: Set", root), x.Set(key, 1), want)
		if ok, e := x.Delete(key); ok || e != want {
			t.Errorf("root %d: Delete: %v, %d, want %d", root, ok, e, want)
		}
	}
	wantEntries(t, x, "", "", false)
	wantErr(t, fmt.Sprintf("root %d: Drop", root), x.Drop(), want)
	if p.Changed() != 0 {
		t.Errorf("root %d: %d pages are changed", root, p.Changed())
	}
}

// P6.5: roots that are no page in use are the pager's error; pages of zeros, of other bytes and free ones are no tree.
func TestNoTrees(t *testing.T) {
	_, p := newPager(t, 20)
	x := newTree(t, p)
	set(t, x, "a", 1)
	var pages []int
	for i := range 6 {
		n, _ := p.Alloc()
		var b disk.Block
		for j := range b {
			b[j] = []byte{0, 2, 3, 255, byte(j), byte(255 - j)}[i]
		}
		p.Put(n, b)
		pages = append(pages, n)
	}
	free, _ := p.Alloc()
	free2, _ := p.Alloc()
	p.Free(free)
	p.Free(free2)
	wantErr(t, "Commit", p.Commit(), api.OK)
	for _, root := range []int{0, -1, math.MinInt, math.MaxInt, 1 << 32, 1<<32 + 1, 10, 20, 21, 4096} {
		wantNothing(t, p, root, api.ErrRange)
	}
	for _, root := range append(pages, free, free2) {
		wantNothing(t, p, root, api.ErrForm)
	}
	wantEntries(t, x, "", "", false, told("a", 1))
	wantErr(t, "Drop", x.Drop(), api.OK)
	wantErr(t, "Commit", p.Commit(), api.OK)
	wantNothing(t, p, x.Root(), api.ErrForm)
}

// P6.5: whatever stands on the pages, all calls end without a panic, results beside an error are zero, and no page is free twice afterwards.
func TestSpoiltPages(t *testing.T) {
	for i, f := range families() {
		r := rand.New(rand.NewSource(int64(300 + i)))
		d, p := newPager(t, 100)
		x := newTree(t, p)
		var keys []string
		for range 80 {
			keys = append(keys, f.key(r))
			set(t, x, keys[len(keys)-1], r.Uint64())
		}
		wantErr(t, "Commit", p.Commit(), api.OK)
		used := 100 - room(openPager(t, d, 0))
		for range 300 {
			for range 1 + r.Intn(4) {
				spoil(p, r, 1+r.Intn(used), 1+r.Intn(used))
			}
			root := x.Root()
			if r.Intn(4) == 0 {
				root = 1 + r.Intn(used)
			}
			useAll(t, tree.Open(p, root), r, keys)
			if n := room(p); n > 100 {
				t.Fatalf("%s: %d pages are free of 100", f.name, n)
			}
			p.Abort()
		}
		for _, k := range keys {
			if _, ok, e := x.Get([]byte(k)); !ok || e != api.OK {
				t.Errorf("%s: %q: %v, %d", f.name, k, ok, e)
			}
		}
	}
}

// spoil makes some bytes of the page n others, or makes it the page m or bytes of any kind.
func spoil(p *page.Pager, r *rand.Rand, n, m int) {
	b, _ := p.Get(n)
	switch r.Intn(6) {
	case 0:
		b, _ = p.Get(m)
	case 1:
		for i := range b {
			b[i] = byte(r.Intn(256) >> r.Intn(8))
		}
	case 2:
		b[r.Intn(3)] = byte(r.Intn(5))
	case 3: // a number that may be a page's
		if i := r.Intn(len(b)); b[i] > 0 {
			b[i] = byte(m)
		}
	default:
		for range 1 + r.Intn(5) {
			b[r.Intn(len(b))] ^= 1 << r.Intn(8)
		}
	}
	p.Put(n, b)
}

// useAll calls everything, in some order, again and again.
func useAll(t *testing.T, x *tree.Tree, r *rand.Rand, keys []string) {
	t.Helper()
	for range 20 {
		key := []byte(keys[r.Intn(len(keys))])
		switch r.Intn(9) {
		case 0, 1:
			if v, ok, e := x.Get(key); (e != api.OK || !ok) && v != 0 || e != api.OK && ok {
				t.Errorf("Get: %d, %v, %d", v, ok, e)
			}
		case 2, 3:
			x.Set(append(key, 'x')[:min(len(key)+1, 96)], r.Uint64())
		case 4, 5:
			if ok, e := x.Delete(key); e != api.OK && ok {
				t.Errorf("Delete: %v, %d", ok, e)
			}
		case 6, 7:
			n := 0
			for range x.All(key, nil, false) {
				n++
			}
			for range x.All(nil, key, true) {
				n++
			}
			if n > 100*256 {
				t.Errorf("All: %d entries", n)
			}
		case 8:
			if r.Intn(4) == 0 {
				x.Drop()
			}
		}
	}
}
