package page_test

import (
	"math"
	"testing"

	"touchmark/api"
	"touchmark/disk"
	"touchmark/page"
)

// noSizes are sizes that a log can't have on a disk with so many blocks.
func noSizes(blocks int) []int {
	return []int{math.MinInt, math.MinInt32, -blocks, -3, -1, 0, 1, 2, blocks, blocks + 1, blocks + 3, 4097, 1 << 32, 1<<32 + 3, math.MaxInt32, math.MaxInt - 3, math.MaxInt}
}

// P5.1 and P5.2: sizes that a log can't have, whatever the disk is like, and no operation.
func TestSizes(t *testing.T) {
	for _, blocks := range []int{1, 2, 3, 4, 5, 40, 4096} {
		d := junk(blocks)
		was := contents(d)
		for _, size := range noSizes(blocks) {
			d.Arm(0)
			wantErr(t, "Format", page.Format(d, size), api.ErrArg)
			refuseOpen(t, d, size, api.ErrArg)
			if d.Down() {
				t.Fatalf("size %d of %d is an operation", size, blocks)
			}
			d.Sync()
			wantErr(t, "Format while down", page.Format(d, size), api.ErrArg)
			refuseOpen(t, d, size, api.ErrArg)
			d.Up(nil, -1)
		}
		wantContents(t, d, was)
	}
}

// mark1 is the log's mark after Format.
func mark1() disk.Block {
	return block(eight(1) + eight(1) + eight(0) + eight(0) + eight(1) + eight(1))
}

// P5.1: the header and the two marks, and nothing else, at every size.
func TestFormat(t *testing.T) {
	for _, c := range [][2]int{{4, 3}, {5, 3}, {5, 4}, {40, 3}, {40, 16}, {40, 39}, {256, 128}, {4096, 3}, {4096, 2048}, {4096, 4095}} {
		blocks, size := c[0], c[1]
		d := junk(blocks)
		want := contents(d)
		wantErr(t, "Format", page.Format(d, size), api.OK)
		want[0], want[1], want[size] = disk.Block{}, mark1(), headed(1, 0)
		wantContents(t, d, want)
		if d.Loose() != 0 {
			t.Errorf("%v: %d writes are unsynced", c, d.Loose())
		}
		p := mustOpen(t, d, size, 3)
		wantChanged(t, p, 0)
		for n := -1; n < 5; n++ {
			refuseGet(t, p, n, api.ErrRange)
		}
		for i := range 16 {
			if p.Root(i) != 0 {
				t.Errorf("%v: Root(%d) is %d", c, i, p.Root(i))
			}
		}
		for n := 1; n < blocks-size; n++ {
			if got, e := p.Alloc(); got != n || e != api.OK {
				t.Fatalf("%v: Alloc is %d, %d, want %d", c, got, e, n)
			}
		}
		refuseAlloc(t, p, api.ErrFull)
	}
}

// P5.1: the operations, and in which order.
func TestFormatOperations(t *testing.T) {
	for _, size := range []int{3, 4, 7} {
		wantPerformed(t, junk(8), func(d *disk.Disk) api.Errno { return page.Format(d, size) }, []operation{{n: size, b: headed(1, 0)}, {n: 1, b: mark1()}, {n: 0}, {sync: true}})
	}
}

// P5.1: the disk's first error.
func TestFormatRefused(t *testing.T) {
	for room := range 9 {
		d := junk(8)
		d.Room(room)
		want := api.ErrFull
		if room > 4 {
			want = api.OK
		}
		wantErr(t, "Format", page.Format(d, 4), want)
		if want != api.OK && d.Loose() > 0 {
			t.Errorf("room %d: %d writes", room, d.Loose())
		}
	}
	d := junk(8)
	d.Arm(0)
	d.Room(0)
	wantErr(t, "Format of a disk that goes down and has no room", page.Format(d, 4), api.ErrDown)
	wantErr(t, "Format of a disk that is down", page.Format(d, 4), api.ErrDown)
	refuseOpen(t, d, 4, api.ErrDown)
}

// P5.1: whatever was there before, the pager is a new one.
func TestFormatAgain(t *testing.T) {
	for _, hold := range holds() {
		d, p := fresh(t, 5, hold)
		put(t, p, 2, full('x'))
		wantErr(t, "Free", p.Free(3), api.OK)
		wantErr(t, "SetRoot", p.SetRoot(4, 4), api.OK)
		wantErr(t, "Commit", p.Commit(), api.OK)
		wantErr(t, "Format", page.Format(d, 16), api.OK)
		q := mustOpen(t, d, 16, hold)
		refuseGet(t, q, 1, api.ErrRange)
		if q.Root(4) != 0 || q.Changed() != 0 {
			t.Errorf("Root(4) is %d, %d pages are changed", q.Root(4), q.Changed())
		}
		wantAlloc(t, q, 1, 2, 3, 4)
		wantErr(t, "Commit", q.Commit(), api.OK)
		q = mustOpen(t, d, 16, hold)
		for n := 1; n < 5; n++ {
			wantGet(t, q, n, disk.Block{})
		}
	}
}

// P5.1: another size on the same disk.
func TestFormatOtherSize(t *testing.T) {
	d, _ := fresh(t, 5, 3)
	for _, size := range []int{39, 3, 20, 15, 17} {
		wantErr(t, "Format", page.Format(d, size), api.OK)
		p := mustOpen(t, d, size, 3)
		wantErr(t, "SetRoot", p.SetRoot(1, uint64(size)), api.OK)
		want := api.OK
		if size == 3 {
			want = api.ErrFull
		}
		wantErr(t, "Commit", p.Commit(), want)
		if q := mustOpen(t, d, size, 3); want == api.OK && q.Root(1) != uint64(size) {
			t.Errorf("size %d: Root(1) is %d", size, q.Root(1))
		}
	}
}
