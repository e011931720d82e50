package page_test

import (
	"math"
	"testing"

	"touchmark/api"
	"touchmark/disk"
	"touchmark/log"
	"touchmark/page"
)

// P5.5: a Commit of nothing does nothing, also of pages that were changed and changed back.
func TestCommitOfNothing(t *testing.T) {
	for _, hold := range holds() {
		d, p := fresh(t, 5, hold)
		nothing := func(what string) {
			t.Helper()
			was := contents(d)
			wantChanged(t, p, 0)
			d.Arm(0)
			wantErr(t, what, p.Commit(), api.OK)
			if d.Down() {
				t.Fatalf("%s: Commit of nothing is an operation", what)
			}
			d.Arm(-1)
			wantContents(t, d, was)
		}
		nothing("nothing")
		put(t, p, 1, full(1))
		nothing("the same page")
		put(t, p, 1, full('x'))
		put(t, p, 2, full('x'))
		wantChanged(t, p, 2)
		put(t, p, 1, full(1))
		wantChanged(t, p, 1)
		put(t, p, 2, full(2))
		nothing("pages that are what they were")
		wantErr(t, "SetRoot", p.SetRoot(3, 9), api.OK)
		wantChanged(t, p, 1)
		wantErr(t, "SetRoot", p.SetRoot(3, 0), api.OK)
		nothing("a root that is what it was")
		wantErr(t, "Free", p.Free(4), api.OK)
		wantAlloc(t, p, 4)
		wantChanged(t, p, 1)
		put(t, p, 4, full(4))
		nothing("a page that was freed and is what it was")
		put(t, p, 3, full('x'))
		wantErr(t, "Commit", p.Commit(), api.OK)
		nothing("a second Commit")
		put(t, p, 3, full(3))
		wantChanged(t, p, 1)
		put(t, p, 3, full('x'))
		nothing("what was committed last")
		wantErr(t, "Checkpoint", p.Checkpoint(), api.OK)
		nothing("behind a Checkpoint")
		put(t, p, 3, full(3))
		p.Abort()
		nothing("behind an Abort")
	}
}

// P5.5: the record of a Commit: each changed page and no other, in increasing order, the header ahead of all if it is changed.
func TestRecords(t *testing.T) {
	for _, hold := range holds() {
		d, p := fresh(t, 20, hold)
		for _, n := range []int{17, 3, 20, 8, 1} {
			put(t, p, n, block("new "+string(rune('a'+n))))
		}
		put(t, p, 9, full(9))
		wantChanged(t, p, 5)
		wantErr(t, "Commit", p.Commit(), api.OK)
		first := entry(1, block("new b")) + entry(3, block("new d")) + entry(8, block("new i")) + entry(17, block("new r")) + entry(20, block("new u"))
		wantRecords(t, d, 16, first)
		wantErr(t, "SetRoot", p.SetRoot(15, math.MaxUint64), api.OK)
		wantErr(t, "Free", p.Free(3), api.OK)
		wantAlloc(t, p, 3, 21)
		put(t, p, 8, full('8'))
		wantChanged(t, p, 4)
		wantErr(t, "Commit", p.Commit(), api.OK)
		roots := make([]uint64, 16)
		roots[15] = math.MaxUint64
		wantRecords(t, d, 16, first, entry(0, headed(22, 0, roots...))+entry(3, disk.Block{})+entry(8, full('8'))+entry(21, disk.Block{}))
		if d.Loose() != 0 {
			t.Errorf("%d writes are unsynced", d.Loose())
		}
	}
}

// P5.5: Abort takes everything back, and the record of an aborted change is never seen.
func TestAbort(t *testing.T) {
	for _, hold := range holds() {
		d, p := fresh(t, 5, hold)
		wantErr(t, "Free", p.Free(2), api.OK)
		wantErr(t, "SetRoot", p.SetRoot(1, 11), api.OK)
		put(t, p, 3, full('3'))
		wantErr(t, "Commit", p.Commit(), api.OK)
		was := contents(d)
		put(t, p, 3, full('x'))
		put(t, p, 1, full('x'))
		wantErr(t, "SetRoot", p.SetRoot(1, 12), api.OK)
		wantErr(t, "SetRoot", p.SetRoot(0, 12), api.OK)
		wantAlloc(t, p, 2, 6, 7)
		wantErr(t, "Free", p.Free(4), api.OK)
		p.Abort()
		wantChanged(t, p, 0)
		wantContents(t, d, was)
		for n, want := range []disk.Block{{}, full(1), {}, full('3'), full(4), full(5)} {
			if n > 0 {
				wantGet(t, p, n, want)
			}
		}
		refuseGet(t, p, 6, api.ErrRange)
		if p.Root(0) != 0 || p.Root(1) != 11 {
			t.Errorf("roots %d, %d", p.Root(0), p.Root(1))
		}
		wantAlloc(t, p, 2, 6)
		p.Abort()
		p.Abort()
		wantErr(t, "Commit", p.Commit(), api.OK)
		wantContents(t, d, was)
	}
}

// P5.5: a Commit for which the log has no space any more is done behind a Checkpoint.
func TestCommitOfFullLog(t *testing.T) {
	for _, hold := range holds() {
		// A record of a page takes 272 bytes of 14 * 256, so 13 are the most.
		d, p := fresh(t, 5, hold)
		for i := range 13 {
			put(t, p, 1+i%3, full(byte(100+i)))
			wantErr(t, "Commit", p.Commit(), api.OK)
		}
		epoch := epochOf(t, d, 16)
		if len(records(t, d, 16)) != 13 {
			t.Fatalf("%d records", len(records(t, d, 16)))
		}
		put(t, p, 1, full('z'))
		wantErr(t, "Commit", p.Commit(), api.OK)
		wantRecords(t, d, 16, entry(1, full('z')))
		if epochOf(t, d, 16) != epoch+1 {
			t.Errorf("epoch %d, and %d before", epochOf(t, d, 16), epoch)
		}
		for n, want := range []disk.Block{headed(6, 0), full(112), full(110), full(111), full(4)} {
			if b, _ := d.Read(16 + n); b != want {
				t.Errorf("home %d: %q", n, b)
			}
		}
		wantGet(t, p, 1, full('z'))
		wantGet(t, p, 2, full(110))
		wantGet(t, p, 3, full(111))
	}
}

func epochOf(t *testing.T, d *disk.Disk, size int) uint64 {
	t.Helper()
	l, _, e := log.Open(d, 0, size)
	wantErr(t, "log.Open", e, api.OK)
	return l.Epoch()
}

// P5.5: a Commit for which even the empty log has no space is taken back, behind a Checkpoint that is none of its changes.
func TestCommitTooLarge(t *testing.T) {
	for _, hold := range holds() {
		d, p := fresh(t, 20, hold)
		put(t, p, 1, full('1'))
		wantErr(t, "Commit", p.Commit(), api.OK)
		for n := 1; n <= 14; n++ {
			put(t, p, n, full('x')) // 14 * 264 + 8 = 3704, of 3584
		}
		wantErr(t, "Commit", p.Commit(), api.ErrFull)
		wantChanged(t, p, 0)
		wantRecords(t, d, 16)
		for n := 2; n <= 20; n++ {
			wantGet(t, p, n, full(byte(n)))
			if b, _ := d.Read(16 + n); b != full(byte(n)) {
				t.Errorf("home %d: %q", n, b)
			}
		}
		wantGet(t, p, 1, full('1'))
		if b, _ := d.Read(16 + 1); b != full('1') {
			t.Errorf("home 1: %q", b)
		}
		for n := 1; n <= 13; n++ {
			put(t, p, n, full('y')) // 13 * 264 + 8 = 3440
		}
		wantErr(t, "Commit", p.Commit(), api.OK)
		wantGet(t, mustOpen(t, d, 16, hold), 13, full('y'))
	}
}

// P5.5: logs of the smallest sizes: the one without space for any record, and the one with space for one page.
func TestSmallLogs(t *testing.T) {
	for _, hold := range holds() {
		d := junk(8)
		page.Format(d, 3)
		p := mustOpen(t, d, 3, hold)
		wantAlloc(t, p, 1)
		wantErr(t, "Commit", p.Commit(), api.ErrFull)
		refuseGet(t, p, 1, api.ErrRange)
		wantErr(t, "SetRoot", p.SetRoot(0, 1), api.OK)
		wantErr(t, "Commit", p.Commit(), api.ErrFull)
		wantErr(t, "Commit of nothing", p.Commit(), api.OK)
		wantErr(t, "Checkpoint", p.Checkpoint(), api.OK)

		page.Format(d, 4)
		p = mustOpen(t, d, 4, hold)
		for i := range uint64(5) {
			wantErr(t, "SetRoot", p.SetRoot(0, i+1), api.OK)
			wantErr(t, "Commit", p.Commit(), api.OK)
			wantRecords(t, d, 4, entry(0, headed(1, 0, i+1)))
		}
		wantAlloc(t, p, 1)
		wantErr(t, "Commit", p.Commit(), api.ErrFull)
		wantRecords(t, d, 4)
		refuseGet(t, p, 1, api.ErrRange)
		if q := mustOpen(t, d, 4, hold); p.Root(0) != 5 || q.Root(0) != 5 {
			t.Errorf("roots %d, %d", p.Root(0), q.Root(0))
		}
	}
}

// P5.5 and P5.1: a log that leaves a single page, the header.
func TestSinglePage(t *testing.T) {
	d := junk(40)
	page.Format(d, 39)
	p := mustOpen(t, d, 39, 1)
	refuseAlloc(t, p, api.ErrFull)
	for i := range uint64(100) {
		wantErr(t, "SetRoot", p.SetRoot(7, i+1), api.OK)
		wantErr(t, "Commit", p.Commit(), api.OK)
		if q := mustOpen(t, d, 39, 1); q.Root(7) != i+1 {
			t.Fatalf("Root(7) is %d, want %d", q.Root(7), i+1)
		}
	}
	wantErr(t, "Checkpoint", p.Checkpoint(), api.OK)
	if b, _ := d.Read(39); b != headed(1, 0, 0, 0, 0, 0, 0, 0, 0, 100) {
		t.Errorf("the header's home: %q", b)
	}
}

// withHistory is a disk with three pages at home, and newer contents of two and the header in the log.
func withHistory(t *testing.T) *disk.Disk {
	t.Helper()
	d, p := fresh(t, 3, 2)
	put(t, p, 1, full('a'))
	put(t, p, 3, full('a'))
	wantErr(t, "Commit", p.Commit(), api.OK)
	put(t, p, 3, full('b'))
	wantErr(t, "SetRoot", p.SetRoot(0, 'b'), api.OK)
	wantErr(t, "Commit", p.Commit(), api.OK)
	return d
}

// byOperations are the blocks that are written ahead of the first sync, and the operations from there on.
func byOperations(ops []operation) (map[int]disk.Block, []operation) {
	written := map[int]disk.Block{}
	for i, o := range ops {
		if o.sync {
			return written, ops[i:]
		}
		written[o.n] = o.b
	}
	return written, nil
}

// P5.6: a Checkpoint writes each page in the log to its home, syncs the disk, and only then restarts the log.
func TestCheckpointOperations(t *testing.T) {
	for _, hold := range holds() {
		d := withHistory(t)
		written, rest := byOperations(performed(t, d, func(d *disk.Disk) api.Errno {
			p := mustOpen(t, d, 16, hold)
			put(t, p, 2, full('x'))
			return p.Checkpoint()
		}))
		for n, b := range written {
			if want := map[int]disk.Block{16: headed(4, 0, 'b'), 17: full('a'), 19: full('b')}; b != want[n] || len(written) != 3 {
				t.Errorf("block %d: %q", n, b)
			}
		}
		if len(rest) != 3 || !rest[0].sync || rest[1].sync || rest[1].n > 1 || !rest[2].sync {
			t.Errorf("behind the writes: %d operations", len(rest))
		}
	}
}

// P5.6: a Checkpoint of a log without records syncs the disk and restarts the log as well.
func TestCheckpointOfNothing(t *testing.T) {
	d, p := fresh(t, 3, 2)
	want := contents(d)
	epoch := epochOf(t, d, 16)
	put(t, p, 2, full('x'))
	for i := range uint64(3) {
		wantErr(t, "Checkpoint", p.Checkpoint(), api.OK)
		if epochOf(t, d, 16) != epoch+i+1 || d.Loose() != 0 {
			t.Errorf("epoch %d, want %d; %d unsynced", epochOf(t, d, 16), epoch+i+1, d.Loose())
		}
	}
	for n, b := range contents(d)[2:] {
		if b != want[n+2] {
			t.Errorf("block %d has changed", n+2)
		}
	}
	wantGet(t, p, 2, full('x'))
	wantChanged(t, p, 1)
}

// P5.6: changed pages stay changed, and do not come home.
func TestCheckpointKeepsChanges(t *testing.T) {
	for _, hold := range holds() {
		d := withHistory(t)
		p := mustOpen(t, d, 16, hold)
		put(t, p, 1, full('x'))
		put(t, p, 2, full('y'))
		wantAlloc(t, p, 4)
		wantErr(t, "SetRoot", p.SetRoot(1, 5), api.OK)
		wantErr(t, "Checkpoint", p.Checkpoint(), api.OK)
		wantChanged(t, p, 4)
		wantRecords(t, d, 16)
		for n, want := range []disk.Block{headed(4, 0, 'b'), full('a'), full(2), full('b')} {
			if b, _ := d.Read(16 + n); b != want {
				t.Errorf("home %d: %q", n, b)
			}
		}
		for n, want := range []disk.Block{{}, full('x'), full('y'), full('b'), {}} {
			if n > 0 {
				wantGet(t, p, n, want)
			}
		}
		d2 := d.Copy()
		q := mustOpen(t, d2, 16, hold)
		wantGet(t, q, 1, full('a'))
		refuseGet(t, q, 4, api.ErrRange)
		put(t, p, 2, full(2))
		wantChanged(t, p, 3)
		wantErr(t, "Commit", p.Commit(), api.OK)
		wantRecords(t, d, 16, entry(0, headed(5, 0, 'b', 5))+entry(1, full('x'))+entry(4, disk.Block{}))
	}
}
