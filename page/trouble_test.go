package page_test

import (
	"testing"

	"touchmark/api"
	"touchmark/disk"
	"touchmark/page"
)

// P5.5: a disk without room for the log's record: the Commit is taken back, and nothing is lost.
func TestNoRoomForTheRecord(t *testing.T) {
	for _, hold := range holds() {
		for room := range 17 {
			d := withHistory(t)
			p := mustOpen(t, d, 16, hold)
			put(t, p, 1, full('x'))
			put(t, p, 2, full('x'))
			wantAlloc(t, p, 4)
			wantErr(t, "SetRoot", p.SetRoot(0, 'x'), api.OK)
			d.Room(room)
			// The record of 4 pages lies behind two of 2 pages: it takes 1064 bytes behind 1072, up to the area's block 8.
			e := p.Commit()
			wantChanged(t, p, 0)
			if want := map[bool]api.Errno{false: api.ErrFull}[room > 10]; e != want {
				t.Errorf("room %d: Commit: %d, want %d", room, e, want)
			}
			d.Room(40)
			for _, q := range []*page.Pager{p, mustOpen(t, d, 16, hold)} {
				if e == api.OK {
					wantGet(t, q, 2, full('x'))
					continue
				}
				wantGet(t, q, 1, full('a'))
				wantGet(t, q, 2, full(2))
				wantGet(t, q, 3, full('b'))
				refuseGet(t, q, 4, api.ErrRange)
				if q.Root(0) != 'b' {
					t.Errorf("Root(0) is %d", q.Root(0))
				}
			}
			wantErr(t, "SetRoot", p.SetRoot(3, 3), api.OK)
			wantErr(t, "Commit", p.Commit(), api.OK)
			if q := mustOpen(t, d, 16, hold); q.Root(3) != 3 {
				t.Errorf("Root(3) is %d", q.Root(3))
			}
		}
	}
}

// P5.5 to P5.7: a disk without room for the homes: commits go on till the log is full, and nothing is lost, nor is more held.
func TestNoRoomForHomes(t *testing.T) {
	for _, hold := range holds() {
		d, p := fresh(t, 5, hold)
		d.Room(17)
		held := func() {
			t.Helper()
			if p.Held() > max(hold, 0)+p.Changed() || p.Held() < p.Changed() {
				t.Errorf("%d held, %d changed, hold %d", p.Held(), p.Changed(), hold)
			}
		}
		for i := range 13 {
			put(t, p, 1+i%5, full(byte(100+i)))
			wantErr(t, "Commit", p.Commit(), api.OK)
			held()
			for n := 1; n <= 5; n++ {
				p.Get(n)
				held()
			}
		}
		now := []disk.Block{{}, full(110), full(111), full(112), full(108), full(109)}
		for range 3 {
			put(t, p, 2, full('x'))
			put(t, p, 4, full('x'))
			wantErr(t, "Checkpoint", p.Checkpoint(), api.ErrFull)
			wantChanged(t, p, 2)
			wantGet(t, p, 2, full('x'))
			wantErr(t, "Commit", p.Commit(), api.ErrFull)
			wantChanged(t, p, 0)
			held()
			for n := 1; n <= 5; n++ {
				wantGet(t, p, n, now[n])
				wantGet(t, mustOpen(t, d, 16, hold), n, now[n])
			}
		}
		if len(records(t, d, 16)) != 13 {
			t.Errorf("%d records", len(records(t, d, 16)))
		}
		d.Room(40)
		put(t, p, 2, full('x'))
		wantErr(t, "Commit", p.Commit(), api.OK)
		wantRecords(t, d, 16, entry(2, full('x')))
		now[2] = full('x')
		for n := 1; n <= 5; n++ {
			wantGet(t, p, n, now[n])
			wantGet(t, mustOpen(t, d, 16, hold), n, now[n])
		}
	}
}

// P5.6: a Checkpoint on a disk without room for some homes, or for the marks: the first error, and nothing lost.
func TestCheckpointRefused(t *testing.T) {
	for _, hold := range holds() {
		for room := range 40 {
			d := withHistory(t)
			p := mustOpen(t, d, 16, hold)
			put(t, p, 2, full('x'))
			d.Room(room)
			want := api.ErrFull
			if room >= 20 {
				want = api.OK
			}
			wantErr(t, "Checkpoint", p.Checkpoint(), want)
			wantChanged(t, p, 1)
			if want != api.OK && len(records(t, d, 16)) != 2 {
				t.Errorf("room %d: %d records", room, len(records(t, d, 16)))
			}
			for n, b := range []disk.Block{{}, full('a'), full('x'), full('b')} {
				if n > 0 {
					wantGet(t, p, n, b)
				}
			}
			p.Abort()
			q := mustOpen(t, d, 16, hold)
			for n, b := range []disk.Block{{}, full('a'), full(2), full('b')} {
				if n > 0 {
					wantGet(t, p, n, b)
					wantGet(t, q, n, b)
				}
			}
		}
	}
}

// P5.6: the marks can't be written, while there is nothing to be brought home.
func TestCheckpointWithoutMarks(t *testing.T) {
	d, p := fresh(t, 3, 2)
	d.Room(0)
	epoch := epochOf(t, d, 16)
	wantErr(t, "Checkpoint", p.Checkpoint(), api.ErrFull)
	if epochOf(t, d, 16) != epoch {
		t.Error("the log has begun anew")
	}
	d.Room(40)
	put(t, p, 2, full('x'))
	wantErr(t, "Commit", p.Commit(), api.OK)
	wantGet(t, mustOpen(t, d, 16, 2), 2, full('x'))
}

// P5.3 to P5.7: while the disk is down, what needs no disk works, and what fails leaves the state as it was.
func TestDown(t *testing.T) {
	for _, hold := range holds() {
		d := withHistory(t)
		p := mustOpen(t, d, 16, hold)
		put(t, p, 1, full('x'))
		d.Arm(0)
		d.Sync()
		wantGet(t, p, 1, full('x'))
		put(t, p, 1, full('y'))
		put(t, p, 2, full('y'))
		wantGet(t, p, 1, full('y'))
		wantGet(t, p, 2, full('y'))
		wantErr(t, "Free", p.Free(3), api.OK)
		wantGet(t, p, 3, disk.Block{})
		wantAlloc(t, p, 3, 4)
		wantErr(t, "SetRoot", p.SetRoot(0, 'y'), api.OK)
		if p.Root(0) != 'y' || p.Changed() != 5 {
			t.Errorf("Root(0) is %d, %d pages are changed", p.Root(0), p.Changed())
		}
		wantErr(t, "Checkpoint", p.Checkpoint(), api.ErrDown)
		wantChanged(t, p, 5)
		wantErr(t, "Commit", p.Commit(), api.ErrDown)
		wantChanged(t, p, 0)
		wantErr(t, "Commit of nothing", p.Commit(), api.OK)
		if p.Root(0) != 'b' {
			t.Errorf("Root(0) is %d", p.Root(0))
		}
		refuseGet(t, p, 4, api.ErrRange)
		for n, want := range []disk.Block{{}, full('a'), full(2), full('b')} {
			if b, e := p.Get(n); n > 0 && !(e == api.OK && b == want || e == api.ErrDown && b == disk.Block{}) {
				t.Errorf("Get(%d): %d %q", n, e, b)
			}
		}
		if p.Held() > max(hold, 0) {
			t.Errorf("%d are held", p.Held())
		}
	}
}

// P5.3 and P5.4: pages that have to be read from a disk that is down.
func TestDownAndUnread(t *testing.T) {
	d, p := fresh(t, 5, 0)
	put(t, p, 3, full('c'))
	wantErr(t, "Free", p.Free(2), api.OK)
	wantErr(t, "Commit", p.Commit(), api.OK)
	p = mustOpen(t, d, 16, 0)
	d.Arm(0)
	d.Sync()
	refuseGet(t, p, 1, api.ErrDown)
	refuseGet(t, p, 3, api.ErrDown)
	refuseGet(t, p, 6, api.ErrRange)
	refuseAlloc(t, p, api.ErrDown)
	wantChanged(t, p, 0)
	if p.Held() != 0 {
		t.Errorf("%d are held", p.Held())
	}
}
