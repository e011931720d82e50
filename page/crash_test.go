package page_test

import (
	"math/rand"
	"slices"
	"testing"

	"touchmark/api"
	"touchmark/disk"
	"touchmark/page"
)

// state is what can be seen of a pager: its pages, its roots, and which pages Alloc would return.
type state struct {
	pages []disk.Block
	roots [16]uint64
	next  []int
}

// stateOf takes the pager's changes back.
func stateOf(p *page.Pager) state {
	p.Abort()
	var s state
	for n := 1; ; n++ {
		b, e := p.Get(n)
		if e != api.OK {
			break
		}
		s.pages = append(s.pages, b)
	}
	for i := range s.roots {
		s.roots[i] = p.Root(i)
	}
	for range 6 {
		n, _ := p.Alloc()
		s.next = append(s.next, n)
	}
	p.Abort()
	return s
}

func (s state) same(o state) bool {
	return slices.Equal(s.pages, o.pages) && s.roots == o.roots && slices.Equal(s.next, o.next)
}

// tears are the offsets at which the last write may be torn: all of them, or those that differ most.
func tears(all bool) []int {
	if !all {
		return []int{-1, 0, 1, 7, 8, 9, 16, 23, 24, 25, 40, 47, 48, 128, 255}
	}
	var out []int
	for torn := -1; torn < 256; torn++ {
		out = append(out, torn)
	}
	return out
}

// failures calls try with a copy of a disk for each way in which the unsynced writes can survive.
func failures(d *disk.Disk, try func(d *disk.Disk)) {
	loose := d.Loose()
	for set := range 1 << loose {
		keep := make([]bool, loose)
		for i := range keep {
			keep[i] = set>>i&1 == 1
		}
		for _, torn := range tears(loose <= 2) {
			c := d.Copy()
			c.Up(keep, torn)
			try(c)
			if set == 0 {
				break
			}
		}
	}
}

// wantOneOf wants one of two states, and that the pager goes on from there.
func wantOneOf(t *testing.T, d *disk.Disk, hold int, old, new state) {
	t.Helper()
	p := mustOpen(t, d, 8, hold)
	now := stateOf(p)
	if !now.same(old) && !now.same(new) {
		t.Fatalf("%v, want %v or %v", now, old, new)
	}
	now.roots[9]++
	wantErr(t, "SetRoot", p.SetRoot(9, now.roots[9]), api.OK)
	wantErr(t, "Commit", p.Commit(), api.OK)
	if got := stateOf(mustOpen(t, d, 8, hold)); !got.same(now) {
		t.Fatalf("afterwards %v, want %v", got, now)
	}
}

// small is a pager with a log of 8 blocks, so of 1536 bytes, and 6 pages; the last one isn't in use.
func small(t *testing.T, hold int) (*disk.Disk, *page.Pager) {
	t.Helper()
	d := junk(14)
	wantErr(t, "Format", page.Format(d, 8), api.OK)
	p := mustOpen(t, d, 8, hold)
	wantAlloc(t, p, 1, 2, 3, 4)
	wantErr(t, "Commit", p.Commit(), api.OK)
	wantErr(t, "Checkpoint", p.Checkpoint(), api.OK)
	return d, p
}

// commits puts pages and commits, once for each list.
func commits(t *testing.T, p *page.Pager, x byte, lists ...[]int) {
	t.Helper()
	for i, list := range lists {
		for _, n := range list {
			put(t, p, n, full(x+byte(16*i+n)))
		}
		wantErr(t, "Commit", p.Commit(), api.OK)
	}
}

// histories are ways by which a pager comes to where it is; each returns its disk.
func histories() map[string]func(t *testing.T, hold int) *disk.Disk {
	return map[string]func(t *testing.T, hold int) *disk.Disk{
		"new": func(t *testing.T, hold int) *disk.Disk {
			d := junk(14)
			wantErr(t, "Format", page.Format(d, 8), api.OK)
			p := mustOpen(t, d, 8, hold)
			wantAlloc(t, p, 1, 2)
			wantErr(t, "Commit", p.Commit(), api.OK)
			return d
		},
		"an empty log": func(t *testing.T, hold int) *disk.Disk {
			d, p := small(t, hold)
			commits(t, p, 0, []int{1, 2, 3})
			wantErr(t, "Checkpoint", p.Checkpoint(), api.OK)
			return d
		},
		"some records": func(t *testing.T, hold int) *disk.Disk {
			d, p := small(t, hold)
			commits(t, p, 0, []int{1, 2}, []int{2})
			return d
		},
		"a full log": func(t *testing.T, hold int) *disk.Disk {
			d, p := small(t, hold)
			wantErr(t, "SetRoot", p.SetRoot(2, 2), api.OK)
			commits(t, p, 0, []int{1}, []int{2}, []int{1, 2})
			return d
		},
		"a full log behind a Checkpoint": func(t *testing.T, hold int) *disk.Disk {
			d, p := small(t, hold)
			commits(t, p, 0, []int{1, 2, 3, 4}, []int{1, 2, 3}, []int{2}, []int{1})
			return d
		},
		"homes that were written, and a log that was not begun anew": func(t *testing.T, hold int) *disk.Disk {
			d, p := small(t, hold)
			commits(t, p, 0, []int{1, 2}, []int{2})
			d.Arm(3)
			wantErr(t, "Checkpoint", p.Checkpoint(), api.ErrDown)
			d.Up([]bool{true, true}, 100)
			commits(t, mustOpen(t, d, 8, hold), 100, []int{2})
			return d
		},
	}
}

// changes are what a Commit can have to save.
func changes() map[string]func(p *page.Pager) {
	return map[string]func(p *page.Pager){
		"a page":            func(p *page.Pager) { p.Put(2, full('x')) },
		"a root":            func(p *page.Pager) { p.SetRoot(0, 1<<63+5) },
		"a page and a root": func(p *page.Pager) { p.Put(1, full('y')); p.SetRoot(2, 7) },
		"a new page":        func(p *page.Pager) { n, _ := p.Alloc(); p.Put(n, full('z')) },
		"a free page":       func(p *page.Pager) { p.Free(1); p.Free(2) },
	}
}

// P5.8: a failure at any operation of a Commit, with a Checkpoint ahead of it or not.
func TestCrashInCommit(t *testing.T) {
	checkpoints := 0
	for name, history := range histories() {
		for _, change := range changes() {
			for _, hold := range []int{0, 2} {
				start := history(t, hold)
				old := stateOf(mustOpen(t, start.Copy(), 8, hold))
				done := start.Copy()
				p := mustOpen(t, done, 8, hold)
				change(p)
				wantErr(t, "Commit", p.Commit(), api.OK)
				if epochOf(t, done, 8) != epochOf(t, start, 8) {
					checkpoints++
				}
				new := stateOf(p)
				if old.same(new) {
					t.Fatal("nothing has changed")
				}
				for fuse := 0; ; fuse++ {
					d := start.Copy()
					p := mustOpen(t, d, 8, hold)
					change(p)
					d.Arm(fuse)
					e := p.Commit()
					d.Arm(-1)
					if e == api.OK {
						failures(d, func(d *disk.Disk) { wantOneOf(t, d, hold, new, new) })
						break
					}
					wantErr(t, "Commit", e, api.ErrDown)
					failures(d, func(d *disk.Disk) { wantOneOf(t, d, hold, old, new) })
					if t.Failed() {
						t.Fatalf("%s: fuse %d", name, fuse)
					}
				}
			}
		}
	}
	if checkpoints < 4 {
		t.Errorf("%d Checkpoints in all", checkpoints)
	}
}

// P5.8: a failure at any operation of a Checkpoint, of changed pages too.
func TestCrashInCheckpoint(t *testing.T) {
	for name, history := range histories() {
		for _, hold := range []int{0, 2} {
			start := history(t, hold)
			old := stateOf(mustOpen(t, start.Copy(), 8, hold))
			for fuse := 0; ; fuse++ {
				d := start.Copy()
				p := mustOpen(t, d, 8, hold)
				p.Put(1, full('x'))
				p.Put(2, full('x'))
				p.SetRoot(3, 3)
				d.Arm(fuse)
				e := p.Checkpoint()
				d.Arm(-1)
				failures(d, func(d *disk.Disk) { wantOneOf(t, d, hold, old, old) })
				if t.Failed() {
					t.Fatalf("%s: fuse %d", name, fuse)
				}
				if e == api.OK {
					break
				}
				wantErr(t, "Checkpoint", e, api.ErrDown)
			}
		}
	}
}

// P5.8: a power failure between the calls; uncommitted changes are gone.
func TestCrashBetween(t *testing.T) {
	for _, history := range histories() {
		for _, change := range changes() {
			for _, hold := range []int{0, 1, 100} {
				d := history(t, hold)
				old := stateOf(mustOpen(t, d.Copy(), 8, hold))
				p := mustOpen(t, d, 8, hold)
				change(p)
				stop := func() { failures(d, func(d *disk.Disk) { wantOneOf(t, d, hold, old, old) }) }
				stop()
				p.Get(1)
				p.Get(2)
				stop()
				p.Abort()
				stop()
			}
		}
	}
}

// P5.8: failure upon failure: each begins with what the one before has left behind.
func TestCrashAgain(t *testing.T) {
	r := rand.New(rand.NewSource(8))
	for run := range 300 {
		x := newPair(t, r)
		for range 25 {
			x.crash(t, r)
			if t.Failed() {
				t.Fatalf("run %d", run)
			}
		}
	}
}

// crash lets the disk fail during random calls, or between two of them.
func (x *pair) crash(t *testing.T, r *rand.Rand) {
	t.Helper()
	x.d.Arm(r.Intn(30) - 1)
	old, new := x.calls(t, r)
	keep := make([]bool, x.d.Loose())
	for i := range keep {
		keep[i] = r.Intn(2) == 0
	}
	x.d.Up(keep, r.Intn(2)*(r.Intn(257)+1)-1)
	x.p, x.m = mustOpen(t, x.d, x.m.size, x.hold), load(t, x.d, x.m.size)
	if !slices.Equal(x.m.saved, old) && !slices.Equal(x.m.saved, new) {
		t.Fatal("neither the old state nor the new one")
	}
	x.agree(t)
	for n := range len(x.m.now) + 2 {
		x.agreeOnPage(t, n-1)
	}
}

// calls are random ones till the disk is down; it returns the two states that may be there then, which differ only if that was in a Commit.
func (x *pair) calls(t *testing.T, r *rand.Rand) (old, new []disk.Block) {
	t.Helper()
	old, new = x.m.saved, x.m.saved
	for range r.Intn(40) {
		got, want := api.OK, api.OK
		switch r.Intn(8) {
		case 0:
			old = slices.Clone(old)
			want, got = x.m.commit(), x.p.Commit()
			new = x.m.saved
		case 1:
			want, got = x.m.checkpoint(), x.p.Checkpoint()
		default:
			x.change(t, r)
		}
		if got == api.ErrDown {
			return old, new
		}
		wantErr(t, "Commit or Checkpoint", got, want)
		old = new
	}
	return old, new
}
