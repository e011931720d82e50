package log_test

import (
	"math"
	"strings"
	"testing"

	"touchmark/api"
	"touchmark/disk"
	"touchmark/log"
)

// operation is one that a disk has performed: a sync, or a write that left a block so.
type operation struct {
	sync bool
	n    int
	b    disk.Block
}

// performed are the operations of act on d, found by letting it fail at each of them. Act must get along with copies of the disk.
func performed(t *testing.T, d *disk.Disk, act func(d *disk.Disk) api.Errno) []operation {
	t.Helper()
	var all []operation
	loose := 0
	for fuse := 1; fuse < 100; fuse++ {
		c := d.Copy()
		c.Arm(fuse)
		e := act(c)
		switch c.Loose() - loose {
		case 1:
			all = append(all, lastWrite(c))
		case -loose:
			all = append(all, operation{sync: true})
		default:
			t.Fatalf("fuse %d: %d writes, and %d before", fuse, c.Loose(), loose)
		}
		loose = c.Loose()
		if e == api.OK {
			return all
		}
		if e != api.ErrDown || !c.Down() {
			t.Fatalf("fuse %d: %d", fuse, e)
		}
	}
	t.Fatal("it doesn't end")
	return nil
}

// lastWrite is the last of a disk's unsynced writes, which must have changed something.
func lastWrite(d *disk.Disk) operation {
	with, without := d.Copy(), d.Copy()
	keep := keepAll(d)
	with.Up(keep, -1)
	without.Up(keep[:len(keep)-1], -1)
	old := contents(without)
	for n, b := range contents(with) {
		if b != old[n] {
			return operation{n: n, b: b}
		}
	}
	return operation{n: -1}
}

func wantPerformed(t *testing.T, d *disk.Disk, act func(d *disk.Disk) api.Errno, want []operation) {
	t.Helper()
	got := performed(t, d, act)
	if len(got) != len(want) {
		t.Fatalf("%d operations, want %d", len(got), len(want))
	}
	for i, o := range got {
		if o != want[i] {
			t.Errorf("operation %d: %v %d %q, want %v %d %q", i, o.sync, o.n, o.b, want[i].sync, want[i].n, want[i].b)
		}
	}
}

// areaWrites are the operations by which bytes come to the area of a log from offset at on, which are told by the chapter byte by byte.
func areaWrites(d *disk.Disk, first, at int, added string) []operation {
	was := contents(d)
	var all []operation
	for n := (at + len(added) - 1) / 256; n >= at/256; n-- {
		var b disk.Block
		for i := range b {
			switch offset := n*256 + i; {
			case offset < at:
				b[i] = was[first+2+n][i]
			case offset < at+len(added):
				b[i] = added[offset-at]
			}
		}
		all = append(all, operation{n: first + 2 + n, b: b})
	}
	return append(all, operation{sync: true})
}

func markWrites(first int, m mark) []operation {
	return []operation{{n: first + int(m.number%2), b: marked(m.number, m.epoch, m.end)}, {sync: true}}
}

// P4.1: the operations of Format.
func TestFormatOperations(t *testing.T) {
	for _, c := range [][2]int{{0, 3}, {5, 3}, {0, 8}, {2, 4}} {
		wantPerformed(t, junk(8), func(d *disk.Disk) api.Errno { return log.Format(d, c[0], c[1]) }, []operation{{n: c[0] + 1, b: marked(1, 1, 0)}, {n: c[0]}, {sync: true}})
	}
}

// P4.4: the operations of Sync, wherever the new records begin and end.
func TestSyncOperations(t *testing.T) {
	lengths := []int{0, 1, 7, 100, 231, 232, 233, 239, 240, 241, 247, 248, 249, 255, 256, 300, 487, 488, 489, 504, 505, 752}
	for _, old := range append([]int{-8}, lengths...) {
		for _, added := range lengths {
			for _, parts := range []int{1, 2, 3} {
				at, size := old+8, added+8*parts
				if at+size > 768 {
					continue
				}
				syncOperations(t, at, old, parts, added)
			}
		}
	}
}

// syncOperations looks at a Sync of some records behind an old one.
func syncOperations(t *testing.T, at, old, parts, added int) {
	t.Helper()
	m := mark{0x1000000000000fe, 1<<40 + 5, uint64(at)}
	area := ""
	if at > 0 {
		area = stored(strings.Repeat("o", old))
	}
	d := junk(8)
	lay(d, 2, marked(m.number, m.epoch, m.end), disk.Block{}, area)
	var records []string
	for i := range parts {
		records = append(records, strings.Repeat(string(rune('p'+i)), added/parts))
	}
	records[0] += strings.Repeat("q", added-added/parts*parts)
	next := mark{m.number + 1, m.epoch, m.end + uint64(len(stored(records...)))}
	want := append(areaWrites(d, 2, at, stored(records...)), markWrites(2, next)...)
	wantPerformed(t, d, func(d *disk.Disk) api.Errno {
		l, _, _ := log.Open(d, 2, 5)
		put(t, l, records...)
		return l.Sync()
	}, want)
}

// P4.4: what is behind the new records is zero up to the end of the block, and stays as it was behind that.
func TestBehindTheEnd(t *testing.T) {
	d, l := fresh(t)
	was := contents(d)
	put(t, l, "a")
	wantErr(t, "Sync", l.Sync(), api.OK)
	was[1], was[3] = marked(2, 1, 9), block(stored("a"))
	wantContents(t, d, was)
	put(t, l, strings.Repeat("b", 239))
	wantErr(t, "Sync", l.Sync(), api.OK)
	was[2], was[3] = marked(3, 1, 256), block(stored("a", strings.Repeat("b", 239)))
	wantContents(t, d, was)
	put(t, l, "")
	wantErr(t, "Sync", l.Sync(), api.OK)
	was[1], was[4] = marked(4, 1, 264), block(eight(0))
	wantContents(t, d, was)
	wantErr(t, "Restart", l.Restart(), api.OK)
	was[2] = marked(5, 2, 0)
	wantContents(t, d, was)
	put(t, l, "c", "d")
	wantErr(t, "Sync", l.Sync(), api.OK)
	was[1], was[3] = marked(6, 2, 18), block(stored("c", "d"))
	wantContents(t, d, was)
}

// P4.4: bytes of the block that are older than the new records are those on the disk.
func TestSyncKeepsWhatWasThere(t *testing.T) {
	d, l := fresh(t, "abc")
	d.Write(3, block(eight(3)+"xyz"+"behind"))
	put(t, l, "d")
	wantErr(t, "Sync", l.Sync(), api.OK)
	wantOpen(t, d, 1, 5, "xyz", "d")
	was := contents(d)
	if was[3] != block(stored("xyz", "d")) {
		t.Errorf("%q", was[3])
	}
}

// P4.4: a Sync of nothing is no operation, whatever the disk is like.
func TestSyncOfNothing(t *testing.T) {
	d, l := fresh(t, "one")
	was := contents(d)
	d.Arm(0)
	d.Room(0)
	for range 3 {
		wantErr(t, "Sync", l.Sync(), api.OK)
	}
	if d.Down() {
		t.Error("a Sync of nothing is an operation")
	}
	d.Sync()
	wantErr(t, "Sync while down", l.Sync(), api.OK)
	d.Up(nil, -1)
	wantContents(t, d, was)
	wantLog(t, l, 749, 1)
	wantErr(t, "Sync", wantOpen(t, d, 1, 5, "one").Sync(), api.OK)
	wantContents(t, d, was)
}

// P4.4 and P4.6: a full disk refuses the last block, ahead of any other; what was appended is discarded, and nothing has changed.
func TestSyncFull(t *testing.T) {
	for _, old := range []int{0, 1, 240, 248, 250} {
		for _, added := range []int{0, 1, 239, 240, 241, 400, 494} {
			for room := -1; room <= 8; room++ {
				d, l := fresh(t, strings.Repeat("o", old))
				was := contents(d)
				d.Room(room)
				d.Arm(1)
				end := 8 + old + 8 + added
				put(t, l, strings.Repeat("n", added))
				if last := 3 + (end-1)/256; room > last {
					d.Arm(-1)
					wantErr(t, "Sync", l.Sync(), api.OK)
					wantOpen(t, d, 1, 5, strings.Repeat("o", old), strings.Repeat("n", added))
					continue
				}
				wantErr(t, "Sync", l.Sync(), api.ErrFull)
				if d.Down() || d.Loose() != 0 {
					t.Errorf("room %d: Down %v, %d writes", room, d.Down(), d.Loose())
				}
				wantContents(t, d, was)
				afterError(t, d, l, strings.Repeat("o", old))
			}
		}
	}
}

// afterError wants that what was appended is gone, and that the log can go on.
func afterError(t *testing.T, d *disk.Disk, l *log.Log, records ...string) {
	t.Helper()
	wantLog(t, l, 760-len(stored(records...)), 1)
	d.Room(0)
	d.Arm(0)
	wantErr(t, "Sync of nothing", l.Sync(), api.OK)
	if d.Down() {
		t.Error("something was left to be synced")
	}
	d.Arm(-1)
	d.Room(8)
	wantOpen(t, d, 1, 5, records...)
	put(t, l, "again")
	wantErr(t, "Sync", l.Sync(), api.OK)
	wantOpen(t, d, 1, 5, append(records, "again")...)
	if b, _ := d.Read(2); b != marked(3, 1, uint64(len(stored(records...))+13)) {
		t.Errorf("mark %q", b[:48])
	}
}

// P4.4: a disk that goes down, or is down: ErrDown, and what was appended is discarded.
func TestSyncDown(t *testing.T) {
	for fuse := range 6 {
		d, l := fresh(t, "one")
		put(t, l, strings.Repeat("n", 500))
		d.Arm(fuse)
		wantErr(t, "Sync", l.Sync(), api.ErrDown)
		if !d.Down() {
			t.Errorf("fuse %d: not down", fuse)
		}
		wantLog(t, l, 749, 1)
		wantErr(t, "Sync of nothing", l.Sync(), api.OK)
		put(t, l, "two")
		wantErr(t, "Sync while down", l.Sync(), api.ErrDown)
		wantLog(t, l, 749, 1)
		d.Up(nil, -1)
		wantLog(t, wantOpen(t, d, 1, 5, "one"), 749, 1)
	}
}

// P4.5: the operations of Restart, and the log behind it.
func TestRestart(t *testing.T) {
	for _, m := range []mark{{1, 1, 0}, {2, 1, 9}, {3, 7, 9}, {254, 255, 9}, {255, 256, 0}, {1 << 40, 1<<32 - 1, 9}, {1<<63 - 1, 1<<63 - 1, 9}, {math.MaxUint64 - 1, math.MaxUint64 - 1, 9}} {
		marks := [2]disk.Block{}
		marks[m.number%2] = marked(m.number, m.epoch, m.end)
		d := junk(8)
		lay(d, 0, marks[0], marks[1], stored("r"))
		was := contents(d)
		wantPerformed(t, d, func(d *disk.Disk) api.Errno {
			l, _, _ := log.Open(d, 0, 8)
			return l.Restart()
		}, markWrites(0, mark{m.number + 1, m.epoch + 1, 0}))
		l, _, _ := log.Open(d, 0, 8)
		wantErr(t, "Restart", l.Restart(), api.OK)
		wantLog(t, l, 1528, m.epoch+1)
		wantLog(t, wantOpen(t, d, 0, 8), 1528, m.epoch+1)
		was[(m.number+1)%2] = marked(m.number+1, m.epoch+1, 0)
		wantContents(t, d, was)
	}
}

// P4.4 and P4.5: the numbers and the epochs of many calls.
func TestNumbers(t *testing.T) {
	d, l := fresh(t)
	number, epoch, end := uint64(1), uint64(1), 0
	for i := range 700 {
		if i%3 == 1 {
			put(t, l, "x")
			wantErr(t, "Sync", l.Sync(), api.OK)
			end += 9
		} else {
			wantErr(t, "Restart", l.Restart(), api.OK)
			epoch, end = epoch+1, 0
		}
		number++
		wantLog(t, l, 760-end, epoch)
		if b, _ := d.Read(1 + int(number%2)); b != marked(number, epoch, uint64(end)) {
			t.Fatalf("mark %d: %q", number, b[:48])
		}
		if i%10 == 0 {
			l, _, _ = log.Open(d, 1, 5)
		}
	}
}

// P4.5: nothing happens as long as something is appended and not synced.
func TestRestartBusy(t *testing.T) {
	d, l := fresh(t, "one")
	was := contents(d)
	for _, r := range []string{"", "two"} {
		put(t, l, r)
		left := l.Left()
		d.Arm(0)
		wantErr(t, "Restart", l.Restart(), api.ErrBusy)
		if d.Down() {
			t.Error("a Restart that is busy is an operation")
		}
		d.Sync()
		wantErr(t, "Restart while down", l.Restart(), api.ErrBusy)
		d.Up(nil, -1)
		wantLog(t, l, left, 1)
		wantContents(t, d, was)
	}
	wantErr(t, "Sync", l.Sync(), api.OK)
	wantOpen(t, d, 1, 5, "one", "", "two")
	put(t, l, "three")
	l.Drop()
	wantErr(t, "Restart", l.Restart(), api.OK)
	wantLog(t, l, 760, 2)
}

// P4.5: a full disk changes neither the log nor what is on it, whichever mark is to be written.
func TestRestartFull(t *testing.T) {
	for number := uint64(2); number < 4; number++ {
		marks := [2]disk.Block{}
		marks[number%2] = marked(number, 5, 9)
		for room := -1; room <= 8; room++ {
			d := byHand(marks[0], marks[1], stored("r"))
			l := wantOpen(t, d, 1, 5, "r")
			was := contents(d)
			d.Room(room)
			if room <= 1+int(number+1)%2 {
				d.Arm(1)
				wantErr(t, "Restart", l.Restart(), api.ErrFull)
				if d.Down() || d.Loose() != 0 {
					t.Errorf("room %d: Down %v, %d writes", room, d.Down(), d.Loose())
				}
				wantContents(t, d, was)
				wantLog(t, l, 751, 5)
				d.Arm(-1)
				d.Room(8)
			}
			wantErr(t, "Restart", l.Restart(), api.OK)
			wantLog(t, l, 760, 6)
			wantLog(t, wantOpen(t, d, 1, 5), 760, 6)
			was[1+(number+1)%2] = marked(number+1, 6, 0)
			wantContents(t, d, was)
		}
	}
}

// P4.5: a disk that goes down, or is down, changes nothing that the log says.
func TestRestartDown(t *testing.T) {
	for fuse := range 2 {
		d, l := fresh(t, "one")
		d.Arm(fuse)
		wantErr(t, "Restart", l.Restart(), api.ErrDown)
		wantLog(t, l, 749, 1)
		wantErr(t, "Restart while down", l.Restart(), api.ErrDown)
		wantLog(t, l, 749, 1)
		c := d.Copy()
		c.Up([]bool{true}, -1)
		if fuse == 0 {
			wantLog(t, wantOpen(t, c, 1, 5, "one"), 749, 1)
		} else {
			wantLog(t, wantOpen(t, c, 1, 5), 760, 2)
		}
		d.Up(nil, -1)
		wantLog(t, wantOpen(t, d, 1, 5, "one"), 749, 1)
	}
}
