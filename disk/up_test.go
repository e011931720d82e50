package disk_test

import (
	"math"
	"slices"
	"testing"

	"touchmark/api"
	"touchmark/disk"
)

// begun is a disk of 3 blocks with synced bytes 1, 2 and 0, and these unsynced writes: 3 to block 0, 4 to block 1, 5 to block 0, 6 to block 2, 7 to block 0.
func begun(t *testing.T) *disk.Disk {
	t.Helper()
	d := disk.New(3)
	put(t, d, 0, full(1))
	put(t, d, 1, full(2))
	sync(t, d)
	for i, n := range []int{0, 1, 0, 2, 0} {
		put(t, d, n, full(byte(3+i)))
	}
	return d
}

func wantBlocks(t *testing.T, d *disk.Disk, want ...disk.Block) {
	t.Helper()
	for n, b := range want {
		wantRead(t, d, n, b)
	}
}

// bits is the list of the n lowest bits of a number.
func bits(number, n int) []bool {
	var l []bool
	for i := range n {
		l = append(l, number>>i&1 == 1)
	}
	return l
}

// P2.6: which writes survive, in their order, whichever are kept.
func TestUpKeeps(t *testing.T) {
	for k := range 32 {
		keep := bits(k, 5)
		want := [3]byte{1, 2, 0}
		for i, n := range []int{0, 1, 0, 2, 0} {
			if keep[i] {
				want[n] = byte(3 + i)
			}
		}
		d := begun(t)
		d.Up(keep, -1)
		wantState(t, d, 0, false)
		wantBlocks(t, d, full(want[0]), full(want[1]), full(want[2]))
		d.Up(bits(31, 5), -1)
		wantBlocks(t, d, full(want[0]), full(want[1]), full(want[2]))
	}
}

// P2.6: elements that are missing are false, also those in spare capacity; those too many mean nothing.
func TestUpKeepOfAnotherLength(t *testing.T) {
	all := bits(math.MaxInt, 9)
	for n := range 10 {
		want := [3]byte{1, 2, 0}
		for i, at := range []int{0, 1, 0, 2, 0}[:min(n, 5)] {
			want[at] = byte(3 + i)
		}
		d := begun(t)
		d.Up(all[:n], -1)
		wantState(t, d, 0, false)
		wantBlocks(t, d, full(want[0]), full(want[1]), full(want[2]))
	}
	if slices.Contains(all, false) {
		t.Error("keep was changed")
	}
	for _, keep := range [][]bool{nil, {}, {false}, {false, false, false, false, false, true}} {
		d := begun(t)
		d.Up(keep, 3)
		wantBlocks(t, d, full(1), full(2), full(0))
	}
}

// P2.6: the last survivor is torn at every place; the bytes behind it stay as they were.
func TestUpTears(t *testing.T) {
	for torn := range 256 {
		d := begun(t)
		d.Up([]bool{true, true, false, false, true}, torn)
		wantState(t, d, 0, false)
		// Block 0 had a survivor before the torn one: what it wrote is what stays.
		wantBlocks(t, d, mixed(7, torn, 3), full(4), full(0))
		d = begun(t)
		d.Up([]bool{false, true, false, false, true}, torn)
		// The bytes of writes that are lost are not those that stay.
		wantBlocks(t, d, mixed(7, torn, 1), full(4), full(0))
		d = begun(t)
		d.Up([]bool{true, true, true, true}, torn)
		wantBlocks(t, d, full(5), full(4), mixed(6, torn, 0))
		d = begun(t)
		d.Up([]bool{true, true}, torn)
		wantBlocks(t, d, full(3), mixed(4, torn, 2), full(0))
	}
}

// P2.6: outside of the block, nothing is torn.
func TestUpTearsNothing(t *testing.T) {
	for _, torn := range []int{-1, -2, -256, math.MinInt, 256, 257, 512, 1 << 32, math.MaxInt} {
		d := begun(t)
		d.Up([]bool{true, true, true, true, true}, torn)
		wantBlocks(t, d, full(7), full(4), full(6))
	}
}

// P2.6: torn bytes are those of the same places of the new block.
func TestUpTearsInPlace(t *testing.T) {
	var before, after disk.Block
	for i := range before {
		before[i], after[i] = byte(i), byte(255-i)
	}
	for torn := range 256 {
		d := disk.New(1)
		put(t, d, 0, before)
		sync(t, d)
		put(t, d, 0, after)
		d.Up([]bool{true}, torn)
		want := before
		for i := range torn {
			want[i] = after[i]
		}
		wantRead(t, d, 0, want)
	}
}

// P2.6: all that holds for a disk that went down, and the failed operation is no survivor.
func TestUpAfterDown(t *testing.T) {
	d := begun(t)
	d.Arm(1)
	put(t, d, 1, full(8))
	wantErr(t, "Write", d.Write(2, full(9)), api.ErrDown)
	wantState(t, d, 6, true)
	wantErr(t, "Write", d.Write(2, full(9)), api.ErrDown)
	d.Up(bits(math.MaxInt, 10), 100)
	wantState(t, d, 0, false)
	wantBlocks(t, d, full(7), mixed(8, 100, 4), full(6))
}

// P2.6: what comes up is permanent: it is not undone by the next failure, and numbers begin at 0 again.
func TestUpAgain(t *testing.T) {
	d := begun(t)
	d.Up([]bool{true, false, false, true}, 10)
	wantBlocks(t, d, full(3), full(2), mixed(6, 10, 0))
	put(t, d, 0, full(8))
	put(t, d, 2, full(9))
	wantState(t, d, 2, false)
	d.Up([]bool{false, true}, 5)
	want := mixed(6, 10, 0)
	copy(want[:5], []byte{9, 9, 9, 9, 9})
	wantBlocks(t, d, full(3), full(2), want)
	d.Up(bits(31, 5), 0)
	wantBlocks(t, d, full(3), full(2), want)
}

// P2.6 and R3: keep is neither changed nor kept.
func TestUpKeepStays(t *testing.T) {
	d := begun(t)
	whole := []bool{true, false, true, false, false, true, true}
	keep := whole[:3]
	d.Up(keep, 7)
	if !slices.Equal(whole, []bool{true, false, true, false, false, true, true}) {
		t.Error("keep was changed:", whole)
	}
	clear(whole)
	wantBlocks(t, d, mixed(5, 7, 3), full(2), full(0))
}

// P2.7: both disks go on alike, and neither sees what becomes of the other.
func TestCopyIsIndependent(t *testing.T) {
	d := begun(t)
	c := d.Copy()
	wantState(t, c, 5, false)
	if c.Blocks() != 3 {
		t.Error(c.Blocks(), "blocks")
	}
	wantBlocks(t, c, full(7), full(4), full(6))
	// The sixth write of each must not come into the other's list.
	put(t, d, 1, full(20))
	put(t, c, 1, full(30))
	put(t, c, 2, full(31))
	wantState(t, d, 6, false)
	wantState(t, c, 7, false)
	wantBlocks(t, d, full(7), full(20), full(6))
	wantBlocks(t, c, full(7), full(30), full(31))
	d.Up([]bool{true, false, false, false, false, true}, -1)
	wantBlocks(t, d, full(3), full(20), full(0))
	wantState(t, c, 7, false)
	wantBlocks(t, c, full(7), full(30), full(31))
	c.Up([]bool{false, true, true, false, false, true}, 9)
	wantBlocks(t, c, full(5), mixed(30, 9, 4), full(0))
	wantBlocks(t, d, full(3), full(20), full(0))
}

// P2.7: a copy keeps what can be undone; a Sync of one is none of the other.
func TestCopyOfUnsynced(t *testing.T) {
	for k := range 32 {
		d := begun(t)
		c := d.Copy()
		sync(t, d)
		wantState(t, c, 5, false)
		e := begun(t)
		c.Up(bits(k, 5), 50)
		e.Up(bits(k, 5), 50)
		for n := range 3 {
			want, _ := e.Read(n)
			wantRead(t, c, n, want)
		}
		d.Up(nil, -1)
		wantBlocks(t, d, full(7), full(4), full(6))
		d = begun(t)
		c = d.Copy()
		sync(t, c)
		wantState(t, d, 5, false)
		d.Up(nil, -1)
		wantBlocks(t, d, full(1), full(2), full(0))
	}
}

// P2.7: the fuse is copied as far as it has burnt, and burns for itself.
func TestCopyOfFuse(t *testing.T) {
	d := disk.New(4)
	d.Room(3)
	d.Arm(5)
	put(t, d, 0, full(1))
	sync(t, d)
	c := d.Copy()
	if n := burn(c, 50); n != 3 {
		t.Error("copy:", n)
	}
	wantState(t, d, 0, false)
	if n := burn(d, 50); n != 3 {
		t.Error("disk:", n)
	}
	d.Up(nil, -1)
	c = d.Copy()
	c.Arm(2)
	if n := burn(d, 50); n != 50 {
		t.Error("disk, when the copy was armed:", n)
	}
	if n := burn(c, 50); n != 2 {
		t.Error("copy, armed itself:", n)
	}
	d.Arm(0)
	if n := burn(d.Copy(), 50); n != 0 {
		t.Error("copy of a fuse of 0:", n)
	}
}

// P2.7: the capacity is copied, and changes for itself.
func TestCopyOfRoom(t *testing.T) {
	d := disk.New(4)
	d.Room(2)
	c := d.Copy()
	d.Room(4)
	wantErr(t, "copy", c.Write(2, full(1)), api.ErrFull)
	put(t, c, 1, full(1))
	put(t, d, 3, full(1))
	c.Room(0)
	put(t, d, 0, full(1))
	wantErr(t, "copy", c.Write(0, full(1)), api.ErrFull)
}

// P2.7: a disk that is down has a copy that is down, and comes up for itself.
func TestCopyOfDown(t *testing.T) {
	d := begun(t)
	d.Arm(0)
	d.Sync()
	c := d.Copy()
	wantState(t, c, 5, true)
	refuseRead(t, c, 0, api.ErrDown)
	c.Up([]bool{false, true}, -1)
	wantState(t, c, 0, false)
	wantBlocks(t, c, full(1), full(4), full(0))
	wantState(t, d, 5, true)
	d.Up([]bool{true}, -1)
	wantBlocks(t, d, full(3), full(2), full(0))
	if n := burn(c, 50); n != 50 {
		t.Error("the copy has a fuse:", n)
	}
}

// P2.7: copies of a disk that nothing was written to, and copies of copies.
func TestCopyOfCopy(t *testing.T) {
	d := disk.New(2)
	c := d.Copy()
	put(t, d, 0, full(1))
	wantRead(t, c, 0, disk.Block{})
	wantState(t, c, 0, false)
	e := d.Copy().Copy()
	put(t, e, 0, full(2))
	put(t, c, 1, full(3))
	e.Up([]bool{true, true}, 1)
	wantBlocks(t, d, full(1), full(0))
	wantBlocks(t, c, full(0), full(3))
	wantBlocks(t, e, mixed(2, 1, 1), full(0))
}
