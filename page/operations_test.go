package page_test

import (
	"testing"

	"touchmark/api"
	"touchmark/disk"
)

// operation is one that a disk has performed: a sync, or a write that left a block so.
type operation struct {
	sync bool
	n    int
	b    disk.Block
}

// performed are the operations of act on d, found by letting it fail at each of them. Act must get along with copies of the disk.
func performed(t *testing.T, d *disk.Disk, act func(d *disk.Disk) api.Errno) []operation {
	t.Helper()
	var all []operation
	loose := 0
	for fuse := 1; fuse < 200; fuse++ {
		c := d.Copy()
		c.Arm(fuse)
		e := act(c)
		switch c.Loose() - loose {
		case 1:
			all = append(all, lastWrite(c))
		case -loose:
			all = append(all, operation{sync: true})
		default:
			t.Fatalf("fuse %d: %d writes, and %d before", fuse, c.Loose(), loose)
		}
		loose = c.Loose()
		if e == api.OK {
			return all
		}
		if e != api.ErrDown || !c.Down() {
			t.Fatalf("fuse %d: %d", fuse, e)
		}
	}
	t.Fatal("it doesn't end")
	return nil
}

// lastWrite is the last of a disk's unsynced writes, which must have changed something.
func lastWrite(d *disk.Disk) operation {
	with, without := d.Copy(), d.Copy()
	keep := keepAll(d)
	with.Up(keep, -1)
	without.Up(keep[:len(keep)-1], -1)
	old := contents(without)
	for n, b := range contents(with) {
		if b != old[n] {
			return operation{n: n, b: b}
		}
	}
	return operation{n: -1}
}

func wantPerformed(t *testing.T, d *disk.Disk, act func(d *disk.Disk) api.Errno, want []operation) {
	t.Helper()
	got := performed(t, d, act)
	if len(got) != len(want) {
		t.Fatalf("%d operations, want %d", len(got), len(want))
	}
	for i, o := range got {
		if o != want[i] {
			t.Errorf("operation %d: %v %d %q, want %v %d %q", i, o.sync, o.n, o.b, want[i].sync, want[i].n, want[i].b)
		}
	}
}
