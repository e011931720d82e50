package disk_test

import (
	"go/parser"
	"go/token"
	"math"
	"path/filepath"
	"strings"
	"testing"

	"touchmark/api"
	"touchmark/disk"
)

// full is a block of one byte all over.
func full(b byte) disk.Block {
	var out disk.Block
	for i := range out {
		out[i] = b
	}
	return out
}

// mixed is a block whose first n bytes are a, and whose others are b.
func mixed(a byte, n int, b byte) disk.Block {
	out := full(b)
	for i := range n {
		out[i] = a
	}
	return out
}

func wantErr(t *testing.T, what string, got, want api.Errno) {
	t.Helper()
	if got != want {
		t.Errorf("%s: %d, want %d", what, got, want)
	}
}

func wantRead(t *testing.T, d *disk.Disk, n int, want disk.Block) {
	t.Helper()
	b, e := d.Read(n)
	if e != api.OK || b != want {
		t.Errorf("Read(%d): %d %v, want %v", n, e, b, want)
	}
}

// refuseRead wants an error, and no block beside it.
func refuseRead(t *testing.T, d *disk.Disk, n int, want api.Errno) {
	t.Helper()
	b, e := d.Read(n)
	if e != want || b != (disk.Block{}) {
		t.Errorf("Read(%d): %d %v, want %d and no block", n, e, b, want)
	}
}

// put writes blocks that must be taken.
func put(t *testing.T, d *disk.Disk, n int, b disk.Block) {
	t.Helper()
	wantErr(t, "Write", d.Write(n, b), api.OK)
}

func sync(t *testing.T, d *disk.Disk) {
	t.Helper()
	wantErr(t, "Sync", d.Sync(), api.OK)
}

func wantState(t *testing.T, d *disk.Disk, loose int, down bool) {
	t.Helper()
	if d.Loose() != loose || d.Down() != down {
		t.Errorf("Loose %d, Down %v, want %d, %v", d.Loose(), d.Down(), loose, down)
	}
}

// noBlocks are numbers that no block of a disk with so many blocks has.
func noBlocks(blocks int) []int {
	return []int{-1, -2, -256, math.MinInt, math.MinInt32, blocks, blocks + 1, blocks + 256, 4096, 1 << 32, math.MaxInt32, math.MaxInt}
}

// P2.1: how many blocks there can be.
func TestNew(t *testing.T) {
	for _, n := range []int{0, -1, -4096, math.MinInt, 4097, 4098, 8192, 1 << 32, 1<<32 + 4, math.MaxInt} {
		if disk.New(n) != nil {
			t.Errorf("New(%d) is a disk", n)
		}
	}
	for _, n := range []int{1, 2, 3, 255, 256, 257, 4095, 4096} {
		d := disk.New(n)
		if d == nil || d.Blocks() != n {
			t.Fatalf("New(%d): %v", n, d)
		}
		wantState(t, d, 0, false)
	}
}

// P2.1 and P2.2: a new disk is zero everywhere, and can be written everywhere.
func TestNewIsZero(t *testing.T) {
	d := disk.New(4096)
	for n := range 4096 {
		wantRead(t, d, n, disk.Block{})
	}
	for n := range 4096 {
		put(t, d, n, full(byte(n%255+1)))
	}
	wantState(t, d, 4096, false)
	for n := range 4096 {
		wantRead(t, d, n, full(byte(n%255+1)))
	}
	one := disk.New(1)
	put(t, one, 0, full(9))
	wantErr(t, "Write(1)", one.Write(1, full(9)), api.ErrRange)
	wantRead(t, one, 0, full(9))
}

// P2.1: every write that was taken is one more that is unsynced, be it of the same block and the same bytes.
func TestLoose(t *testing.T) {
	d := disk.New(4)
	for i := range 5 {
		put(t, d, 2, full(7))
		wantState(t, d, i+1, false)
	}
	put(t, d, 3, disk.Block{})
	wantState(t, d, 6, false)
	d.Write(4, full(1))
	d.Room(0)
	d.Write(1, full(1))
	d.Read(2)
	wantState(t, d, 6, false)
	d.Arm(0)
	d.Write(2, full(1))
	wantState(t, d, 6, true)
	d.Sync()
	wantState(t, d, 6, true)
	d.Up(nil, -1)
	wantState(t, d, 0, false)
}

// P2.2: the last write is read, synced or not, and blocks that were not written stay.
func TestRead(t *testing.T) {
	d := disk.New(4)
	put(t, d, 1, full(1))
	wantRead(t, d, 1, full(1))
	sync(t, d)
	wantRead(t, d, 1, full(1))
	put(t, d, 1, full(2))
	put(t, d, 1, mixed(3, 200, 4))
	put(t, d, 3, full(5))
	for range 2 {
		wantRead(t, d, 0, disk.Block{})
		wantRead(t, d, 1, mixed(3, 200, 4))
		wantRead(t, d, 2, disk.Block{})
		wantRead(t, d, 3, full(5))
		sync(t, d)
	}
}

// P2.2: numbers that no block has; ErrDown comes first.
func TestReadRefuses(t *testing.T) {
	for _, blocks := range []int{1, 4, 4096} {
		d := disk.New(blocks)
		for n := range blocks {
			put(t, d, n, full(1))
		}
		for _, n := range noBlocks(blocks) {
			refuseRead(t, d, n, api.ErrRange)
		}
		d.Arm(0)
		d.Sync()
		refuseRead(t, d, 0, api.ErrDown)
		refuseRead(t, d, blocks-1, api.ErrDown)
		for _, n := range noBlocks(blocks) {
			refuseRead(t, d, n, api.ErrDown)
		}
	}
}

// P2.2 and R3: a block that was read is no piece of the disk.
func TestReadIsACopy(t *testing.T) {
	d := disk.New(2)
	b := full(1)
	put(t, d, 0, b)
	b[0] = 9
	wantRead(t, d, 0, full(1))
	r, _ := d.Read(0)
	r[1] = 9
	wantRead(t, d, 0, full(1))
}

// P2.3: a write that is refused writes nothing and is not unsynced.
func TestWriteRefuses(t *testing.T) {
	d := disk.New(4)
	for n := range 4 {
		put(t, d, n, full(1))
	}
	for _, n := range noBlocks(4) {
		wantErr(t, "Write of no block", d.Write(n, full(2)), api.ErrRange)
	}
	d.Room(2)
	wantErr(t, "Write behind the capacity", d.Write(2, full(2)), api.ErrFull)
	wantErr(t, "Write behind the capacity", d.Write(3, full(2)), api.ErrFull)
	for _, n := range noBlocks(4) {
		wantErr(t, "ErrRange before ErrFull", d.Write(n, full(2)), api.ErrRange)
	}
	wantState(t, d, 4, false)
	d.Arm(0)
	wantErr(t, "ErrDown by this operation, before ErrRange", d.Write(-1, full(2)), api.ErrDown)
	for _, n := range append(noBlocks(4), 0, 1, 2, 3) {
		wantErr(t, "ErrDown before the others", d.Write(n, full(2)), api.ErrDown)
	}
	wantState(t, d, 4, true)
	d.Up([]bool{true, true, true, true, true}, -1)
	for n := range 4 {
		wantRead(t, d, n, full(1))
	}
}

// P2.3: ErrDown comes before ErrFull too, and before a write that would be taken.
func TestWriteThatGoesDown(t *testing.T) {
	for _, n := range []int{0, 1, 3, 4, -1, math.MaxInt, math.MinInt} {
		d := disk.New(4)
		put(t, d, 0, full(1))
		d.Room(1)
		d.Arm(0)
		wantErr(t, "Write", d.Write(n, full(2)), api.ErrDown)
		wantState(t, d, 1, true)
		d.Up([]bool{true, true}, -1)
		wantRead(t, d, 0, full(1))
		wantRead(t, d, 1, disk.Block{})
		wantRead(t, d, 3, disk.Block{})
	}
}

// P2.4: what is synced outlasts a failure; a Sync that is not performed syncs nothing.
func TestSync(t *testing.T) {
	d := disk.New(4)
	sync(t, d)
	put(t, d, 1, full(1))
	put(t, d, 1, full(2))
	put(t, d, 2, full(3))
	sync(t, d)
	wantState(t, d, 0, false)
	d.Up(nil, -1)
	wantRead(t, d, 1, full(2))
	wantRead(t, d, 2, full(3))
	put(t, d, 1, full(4))
	d.Arm(0)
	wantErr(t, "Sync that goes down", d.Sync(), api.ErrDown)
	wantState(t, d, 1, true)
	wantErr(t, "Sync while down", d.Sync(), api.ErrDown)
	wantState(t, d, 1, true)
	d.Up(nil, -1)
	wantRead(t, d, 1, full(2))
	wantRead(t, d, 2, full(3))
}

// P2.4: a Sync has nothing to do with the capacity.
func TestSyncWithoutRoom(t *testing.T) {
	d := disk.New(4)
	put(t, d, 3, full(1))
	d.Room(0)
	sync(t, d)
	d.Up(nil, -1)
	wantRead(t, d, 3, full(1))
}

// P2.5: the capacity, at every number.
func TestRoom(t *testing.T) {
	for _, c := range []struct{ room, capacity int }{
		{0, 0}, {1, 1}, {2, 2}, {3, 3}, {4, 4}, {5, 4}, {4096, 4}, {4097, 4}, {1 << 32, 4}, {math.MaxInt, 4},
		{-1, 0}, {-2, 0}, {-1 << 32, 0}, {math.MinInt, 0},
	} {
		d := disk.New(4)
		d.Room(3)
		d.Room(c.room)
		for n := range 4 {
			want := api.OK
			if n >= c.capacity {
				want = api.ErrFull
			}
			wantErr(t, "Write", d.Write(n, full(1)), want)
		}
		wantErr(t, "Write(4)", d.Write(4, full(1)), api.ErrRange)
		if d.Blocks() != 4 || d.Loose() != c.capacity {
			t.Errorf("Room(%d): %d blocks, %d unsynced", c.room, d.Blocks(), d.Loose())
		}
		d.Room(4)
		put(t, d, 3, full(2))
	}
}

// P2.5: less room hides and loses nothing that was written there, and hinders no survivor.
func TestRoomOnlyHindersWrites(t *testing.T) {
	d := disk.New(4)
	put(t, d, 2, full(1))
	sync(t, d)
	put(t, d, 3, full(2))
	put(t, d, 2, full(3))
	d.Room(1)
	wantRead(t, d, 2, full(3))
	wantRead(t, d, 3, full(2))
	d.Up([]bool{true}, -1)
	wantRead(t, d, 2, full(1))
	wantRead(t, d, 3, full(2))
	wantErr(t, "the capacity stays when the disk comes up", d.Write(1, full(4)), api.ErrFull)
}

// P2.5: Room works while the disk is down.
func TestRoomWhileDown(t *testing.T) {
	d := disk.New(4)
	d.Arm(0)
	d.Sync()
	d.Room(2)
	wantState(t, d, 0, true)
	d.Up(nil, -1)
	wantErr(t, "Write(2)", d.Write(2, full(1)), api.ErrFull)
	put(t, d, 1, full(1))
	d.Arm(0)
	d.Sync()
	d.Room(3)
	d.Room(-5)
	d.Up(nil, -1)
	wantErr(t, "Write(0)", d.Write(0, full(1)), api.ErrFull)
}

// burn calls operations of all kinds of results till the disk is down; it tells how many were performed.
func burn(d *disk.Disk, most int) int {
	for i := range most {
		e := api.OK
		switch i % 4 {
		case 0:
			e = d.Write(0, full(1))
		case 1:
			e = d.Sync()
		case 2:
			e = d.Write(-1, full(1)) // ErrRange
		case 3:
			e = d.Write(3, full(1)) // ErrFull
		}
		if e == api.ErrDown {
			return i
		}
	}
	return most
}

// P2.5 and the words: after how many operations the disk fails; those that are refused count too.
func TestArm(t *testing.T) {
	for fuse := range 20 {
		d := disk.New(4)
		d.Room(3)
		d.Arm(fuse)
		if n := burn(d, 50); n != fuse || !d.Down() {
			t.Errorf("Arm(%d): %d operations, down %v", fuse, n, d.Down())
		}
	}
	for _, fuse := range []int{-1, -2, -1 << 32, math.MinInt, math.MaxInt, 1 << 32} {
		d := disk.New(4)
		d.Room(3)
		d.Arm(1)
		d.Arm(fuse)
		if n := burn(d, 50); n != 50 || d.Down() {
			t.Errorf("Arm(%d): %d operations, down %v", fuse, n, d.Down())
		}
	}
	d := disk.New(4)
	if burn(d, 1000) != 1000 {
		t.Error("a new disk has a fuse")
	}
}

// P2.5 and the words: what is no operation does not burn the fuse.
func TestArmOnlyOperationsCount(t *testing.T) {
	d := disk.New(4)
	d.Arm(1)
	for range 5 {
		wantRead(t, d, 0, disk.Block{})
		refuseRead(t, d, 9, api.ErrRange)
		d.Room(4)
		d.Copy()
		d.Blocks()
		wantState(t, d, 0, false)
	}
	put(t, d, 0, full(1))
	wantRead(t, d, 0, full(1))
	wantState(t, d, 1, false)
	wantErr(t, "Write", d.Write(0, full(2)), api.ErrDown)
	wantState(t, d, 1, true)
}

// P2.5: a fuse is set anew by Arm.
func TestArmAgain(t *testing.T) {
	d := disk.New(4)
	d.Arm(2)
	put(t, d, 0, full(1))
	d.Arm(2)
	put(t, d, 0, full(2))
	put(t, d, 0, full(3))
	wantErr(t, "Write", d.Write(0, full(4)), api.ErrDown)
	d.Up(nil, -1)
	d.Arm(0)
	d.Arm(1)
	sync(t, d)
	wantErr(t, "Sync", d.Sync(), api.ErrDown)
}

// P2.5 and P2.6: a disk that went down has no fuse any more, and one that comes up has none either, wherever it came from.
func TestNoFuseAfterFailure(t *testing.T) {
	down := disk.New(4)
	down.Arm(0)
	down.Sync()
	down.Up(nil, -1)
	armedWhileDown := disk.New(4)
	armedWhileDown.Arm(0)
	armedWhileDown.Sync()
	armedWhileDown.Arm(1)
	wantState(t, armedWhileDown, 0, true)
	armedWhileDown.Up(nil, -1)
	armedWhileUp := disk.New(4)
	armedWhileUp.Arm(1)
	armedWhileUp.Up(nil, -1)
	for i, d := range []*disk.Disk{down, armedWhileDown, armedWhileUp} {
		if n := burn(d, 50); n != 50 {
			t.Errorf("disk %d: fails after %d operations", i, n)
		}
	}
}

// The chapter's examples.
func TestExamples(t *testing.T) {
	b, c := full(1), full(2)
	d := disk.New(4)
	put(t, d, 1, b)
	wantRead(t, d, 1, b)
	wantState(t, d, 1, false)
	wantErr(t, "Write(4)", d.Write(4, b), api.ErrRange)
	refuseRead(t, d, -1, api.ErrRange)
	sync(t, d)
	put(t, d, 1, c)
	put(t, d, 2, c)
	d.Up(nil, -1)
	wantRead(t, d, 1, b)
	wantRead(t, d, 2, disk.Block{})
	put(t, d, 1, c)
	put(t, d, 2, c)
	d.Up([]bool{false, true}, 3)
	wantRead(t, d, 1, b)
	wantRead(t, d, 2, mixed(2, 3, 0))
	d.Room(2)
	wantErr(t, "Write(2)", d.Write(2, b), api.ErrFull)
	put(t, d, 1, b)
	d.Arm(1)
	put(t, d, 1, b)
	wantErr(t, "Sync", d.Sync(), api.ErrDown)
	refuseRead(t, d, 1, api.ErrDown)
	wantState(t, d, 2, true)
	d.Up([]bool{true}, -1)
	wantRead(t, d, 1, b)
}

// The chapter's first paragraph: the package imports api, and nothing else.
func TestImportsApi(t *testing.T) {
	files, err := filepath.Glob("*.go")
	if err != nil || len(files) == 0 {
		t.Fatal(files, err)
	}
	for _, name := range files {
		if strings.HasSuffix(name, "_test.go") {
			continue
		}
		f, err := parser.ParseFile(token.NewFileSet(), name, nil, parser.ImportsOnly)
		if err != nil {
			t.Fatal(err)
		}
		for _, i := range f.Imports {
			if i.Path.Value != `"touchmark/api"` {
				t.Errorf("%s imports %s", name, i.Path.Value)
			}
		}
	}
}
