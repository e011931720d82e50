package page_test

import (
	"math"
	"testing"

	"touchmark/api"
	"touchmark/disk"
	"touchmark/page"
)

// P5.4: free pages come back in the opposite order, and then the next ones.
func TestFreeList(t *testing.T) {
	for _, hold := range holds() {
		d, p := fresh(t, 6, hold)
		for _, n := range []int{3, 5, 1} {
			wantErr(t, "Free", p.Free(n), api.OK)
		}
		wantGet(t, p, 3, disk.Block{})
		wantGet(t, p, 5, block(eight(3)))
		wantGet(t, p, 1, block(eight(5)))
		wantChanged(t, p, 4)
		wantErr(t, "Commit", p.Commit(), api.OK)
		wantRecords(t, d, 16, entry(0, headed(7, 1))+entry(1, block(eight(5)))+entry(3, disk.Block{})+entry(5, block(eight(3))))
		for _, q := range []*page.Pager{p, mustOpen(t, d, 16, hold)} {
			wantAlloc(t, q, 1, 5, 3, 7)
			wantChanged(t, q, 4) // page 3 is zero as before
			wantErr(t, "Free", q.Free(7), api.OK)
			wantAlloc(t, q, 7, 8)
			wantGet(t, q, 2, full(2))
			q.Abort()
		}
	}
}

// P5.4: what Alloc returns is filled with zeros, whatever the page or its home had.
func TestAllocFillsWithZeros(t *testing.T) {
	for _, hold := range holds() {
		d, p := fresh(t, 0, hold)
		wantAlloc(t, p, 1)
		wantChanged(t, p, 2)
		wantErr(t, "Commit", p.Commit(), api.OK)
		wantRecords(t, d, 16, entry(0, headed(2, 0))+entry(1, disk.Block{}))
		put(t, p, 1, full('x'))
		wantErr(t, "Free", p.Free(1), api.OK)
		wantGet(t, p, 1, disk.Block{})
		put(t, p, 1, block(eight(0)+"left behind"))
		wantAlloc(t, p, 1)
		wantChanged(t, p, 0)
		wantAlloc(t, p, 2)
		wantErr(t, "Commit", p.Commit(), api.OK)
		wantGet(t, mustOpen(t, d, 16, hold), 2, disk.Block{})
	}
}

// P5.4: a home that is zero anyway isn't changed by Alloc, but the header is.
func TestAllocOfZeros(t *testing.T) {
	d := disk.New(40)
	page.Format(d, 16)
	p := mustOpen(t, d, 16, 2)
	wantAlloc(t, p, 1, 2, 3)
	wantChanged(t, p, 1)
	wantErr(t, "Commit", p.Commit(), api.OK)
	wantRecords(t, d, 16, entry(0, headed(4, 0)))
}

// P5.4: a list whose head is a page in use; what its first 8 bytes say becomes the head, whatever that is.
func TestListsByHand(t *testing.T) {
	for _, hold := range holds() {
		for i, c := range []struct {
			used, head uint64
			nexts      map[int]uint64 // the first 8 bytes of pages
			want       []int          // what Alloc returns
		}{
			{5, 0, nil, []int{5, 6, 7}},
			{5, 2, map[int]uint64{2: 4, 4: 0}, []int{2, 4, 5, 6}},
			{5, 4, map[int]uint64{4: 1, 1: 3, 3: 2, 2: 0}, []int{4, 1, 3, 2, 5}},
			{5, 1, map[int]uint64{1: 0}, []int{1, 5}},
			// The head is itself, or comes back: the second time, the page is filled with zeros.
			{5, 3, map[int]uint64{3: 3}, []int{3, 3, 5, 6}},
			{5, 3, map[int]uint64{3: 4, 4: 3}, []int{3, 4, 3, 5}},
			// The head isn't in use.
			{5, 7, nil, []int{5, 6, 7, 7, 8, 9}},
			{5, 5, nil, []int{5, 5, 6, 7}},
			{5, 6, nil, []int{5, 6, 6, 7}},
			{5, 24, nil, []int{5, 6, 7}},
			{5, math.MaxUint64, nil, []int{5, 6, 7}},
			{5, 1 << 63, nil, []int{5, 6, 7}},
			{5, 1<<63 + 2, nil, []int{5, 6, 7}},
			{5, 1<<32 + 2, nil, []int{5, 6, 7}},
			{5, math.MaxUint64 - 1, nil, []int{5, 6, 7}},
			{5, 2, map[int]uint64{2: 9}, []int{2, 5, 6, 7, 8, 9, 9, 10}},
			{5, 2, map[int]uint64{2: 1<<32 + 1}, []int{2, 5, 6, 7}},
			{5, 2, map[int]uint64{2: math.MaxUint64}, []int{2, 5, 6, 7}},
			{1, 0, nil, []int{1, 2}},
			{1, 1, nil, []int{1, 1, 2}},
			{23, 0, nil, []int{23, 0}},
			{24, 23, map[int]uint64{23: 22, 22: 24}, []int{23, 22, 0}},
			{24, 0, nil, []int{0, 0}},
			{24, 24, nil, []int{0, 0}},
			{24, math.MaxUint64, nil, []int{0, 0}},
			{24, 7, map[int]uint64{7: 7}, []int{7, 7, 0}},
		} {
			d := byHand(t, headed(c.used, c.head, 5, 6))
			for n, next := range c.nexts {
				b := full('x')
				copy(b[:], eight(next))
				d.Write(16+n, b)
			}
			p := mustOpen(t, d, 16, hold)
			for _, want := range c.want {
				if want == 0 {
					was := p.Changed()
					refuseAlloc(t, p, api.ErrFull)
					wantChanged(t, p, was)
				} else {
					wantAlloc(t, p, want)
				}
			}
			if p.Root(0) != 5 || p.Root(1) != 6 || p.Root(2) != 0 {
				t.Errorf("case %d: roots %d, %d, %d", i, p.Root(0), p.Root(1), p.Root(2))
			}
			p.Abort()
			wantChanged(t, p, 0)
			if c.want[0] != 0 {
				wantAlloc(t, p, c.want[0])
			}
		}
	}
}

// P5.4: a head that isn't in use stays the head, and what Free writes is that number.
func TestFreeWithOtherHead(t *testing.T) {
	for _, head := range []uint64{0, 1, 4, 5, 24, 1 << 32, 1 << 63, math.MaxUint64, 0x0102030405060708} {
		p := mustOpen(t, byHand(t, headed(5, head)), 16, 2)
		wantErr(t, "Free", p.Free(3), api.OK)
		wantGet(t, p, 3, block(eight(head)))
		wantAlloc(t, p, 3)
		wantErr(t, "Free", p.Free(2), api.OK)
		wantGet(t, p, 2, block(eight(head)))
	}
}

// P5.4: a page that is freed twice is its own next one.
func TestFreeTwice(t *testing.T) {
	_, p := fresh(t, 3, 1)
	wantErr(t, "Free", p.Free(2), api.OK)
	wantErr(t, "Free", p.Free(2), api.OK)
	wantGet(t, p, 2, block(eight(2)))
	wantAlloc(t, p, 2, 2, 4)
}

// P5.4: pages that are all in use, and room again by Free.
func TestAllInUse(t *testing.T) {
	for _, size := range []int{3, 16, 38, 39} {
		d := junk(40)
		page.Format(d, size)
		p := mustOpen(t, d, size, 2)
		for n := 1; n < 40-size; n++ {
			wantAlloc(t, p, n)
		}
		changed := p.Changed()
		for range 3 {
			refuseAlloc(t, p, api.ErrFull)
		}
		wantChanged(t, p, changed)
		if size == 39 {
			continue
		}
		wantErr(t, "Free", p.Free(1), api.OK)
		wantAlloc(t, p, 1)
		refuseAlloc(t, p, api.ErrFull)
	}
}
