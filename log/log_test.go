package log_test

import (
	"bytes"
	"encoding/binary"
	"go/parser"
	"go/token"
	"math"
	"math/rand"
	"path/filepath"
	"strings"
	"testing"

	"touchmark/api"
	"touchmark/disk"
	"touchmark/log"
)

func eight(n uint64) string {
	return string(binary.BigEndian.AppendUint64(nil, n))
}

// block begins with some bytes; the others are zero.
func block(s string) disk.Block {
	var b disk.Block
	copy(b[:], s)
	return b
}

// groups are the six numbers at the beginning of a block.
func groups(n ...uint64) disk.Block {
	s := ""
	for _, x := range n {
		s += eight(x)
	}
	return block(s)
}

// marked is a mark as the chapter has it.
func marked(number, epoch, end uint64) disk.Block {
	return groups(number, epoch, end, end, epoch, number)
}

// stored are records as they lie in the area.
func stored(records ...string) string {
	s := ""
	for _, r := range records {
		s += eight(uint64(len(r))) + r
	}
	return s
}

// junk is a disk whose blocks have no byte 0, all synced.
func junk(blocks int) *disk.Disk {
	d := disk.New(blocks)
	r := rand.New(rand.NewSource(int64(blocks)))
	for n := range blocks {
		var b disk.Block
		for i := range b {
			b[i] = byte(r.Intn(255) + 1)
		}
		d.Write(n, b)
	}
	d.Sync()
	return d
}

// contents are all blocks as they would be read, also if the disk is down.
func contents(d *disk.Disk) []disk.Block {
	d = d.Copy()
	if d.Down() {
		d.Up(keepAll(d), -1)
	}
	var all []disk.Block
	for n := range d.Blocks() {
		b, _ := d.Read(n)
		all = append(all, b)
	}
	return all
}

func keepAll(d *disk.Disk) []bool {
	keep := make([]bool, d.Loose())
	for i := range keep {
		keep[i] = true
	}
	return keep
}

// lay writes a log by hand: the two marks, and the beginning of the area.
func lay(d *disk.Disk, first int, mark0, mark1 disk.Block, area string) {
	d.Write(first, mark0)
	d.Write(first+1, mark1)
	for i := 0; i < len(area); i += 256 {
		b, _ := d.Read(first + 2 + i/256)
		copy(b[:], area[i:])
		d.Write(first+2+i/256, b)
	}
	d.Sync()
}

// roomy is b with spare capacity, and the whole of it.
func roomy(b []byte) (roomy, whole []byte) {
	whole = append(bytes.Clone(b), bytes.Repeat([]byte{0xee}, 200)...)
	return whole[:len(b)], whole
}

// spoil overwrites a slice and its spare capacity.
func spoil(b []byte) {
	b = b[:cap(b)]
	for i := range b {
		b[i] ^= 0x55
	}
}

func wantErr(t *testing.T, what string, got, want api.Errno) {
	t.Helper()
	if got != want {
		t.Errorf("%s: %d, want %d", what, got, want)
	}
}

func same(records [][]byte, want []string) bool {
	if len(records) != len(want) {
		return false
	}
	for i, r := range records {
		if string(r) != want[i] {
			return false
		}
	}
	return true
}

func wantOpen(t *testing.T, d *disk.Disk, first, size int, want ...string) *log.Log {
	t.Helper()
	l, records, e := log.Open(d, first, size)
	if e != api.OK || l == nil || !same(records, want) {
		t.Fatalf("Open(%d, %d): %.300q, %d, want %.300q", first, size, records, e, want)
	}
	return l
}

// refuseOpen wants an error, and nothing beside it.
func refuseOpen(t *testing.T, d *disk.Disk, first, size int, want api.Errno) {
	t.Helper()
	if l, records, e := log.Open(d, first, size); e != want || l != nil || len(records) != 0 {
		t.Errorf("Open(%d, %d): %v, %q, %d, want %d and nothing else", first, size, l, records, e, want)
	}
}

func wantLog(t *testing.T, l *log.Log, left int, epoch uint64) {
	t.Helper()
	if l.Left() != left || l.Epoch() != epoch {
		t.Errorf("Left %d, Epoch %d, want %d, %d", l.Left(), l.Epoch(), left, epoch)
	}
}

// wantContents wants a disk that nothing was written to, or what the chapter says.
func wantContents(t *testing.T, d *disk.Disk, want []disk.Block) {
	t.Helper()
	for n, b := range contents(d) {
		if b != want[n] {
			t.Errorf("block %d: %q, want %q", n, b, want[n])
		}
	}
}

// fresh is a log on a disk of 8 blocks of junk, from block 1 on, of 5 blocks.
func fresh(t *testing.T, records ...string) (*disk.Disk, *log.Log) {
	t.Helper()
	d := junk(8)
	wantErr(t, "Format", log.Format(d, 1, 5), api.OK)
	l := wantOpen(t, d, 1, 5)
	put(t, l, records...)
	wantErr(t, "Sync", l.Sync(), api.OK)
	return d, l
}

func put(t *testing.T, l *log.Log, records ...string) {
	t.Helper()
	for _, r := range records {
		wantErr(t, "Append", l.Append([]byte(r)), api.OK)
	}
}

// The chapter's examples.
func TestExamples(t *testing.T) {
	d := disk.New(8)
	refuseOpen(t, d, 1, 5, api.ErrForm)
	wantErr(t, "Format", log.Format(d, 1, 5), api.OK)
	l := wantOpen(t, d, 1, 5)
	wantLog(t, l, 760, 1)
	put(t, l, "ab", "")
	wantLog(t, l, 742, 1)
	wantErr(t, "Sync", l.Sync(), api.OK)
	wantOpen(t, d, 1, 5, "ab", "")
	put(t, l, "x")
	d.Room(2)
	wantErr(t, "Sync", l.Sync(), api.ErrFull)
	wantOpen(t, d, 1, 5, "ab", "")
	d.Room(8)
	wantErr(t, "Restart", l.Restart(), api.OK)
	wantLog(t, l, 760, 2)
	wantOpen(t, d, 1, 5)
	refuseOpen(t, d, 0, 2, api.ErrArg)
	refuseOpen(t, d, 4, 5, api.ErrArg)
	wantErr(t, "Append", l.Append(make([]byte, 761)), api.ErrFull)
}

// noLogs are the first blocks and sizes that a disk with so many blocks has no log at.
func noLogs(blocks int) [][2]int {
	out := [][2]int{
		{blocks - 2, 3}, {blocks - 1, 3}, {blocks, 3}, {1, blocks}, {0, blocks + 1}, {math.MinInt, 3}, {math.MinInt, math.MaxInt},
		{math.MaxInt, 3}, {math.MaxInt, math.MaxInt}, {math.MaxInt, math.MinInt}, {math.MaxInt - 1, 3}, {math.MaxInt - 2, 3}, {2, math.MaxInt}, {1, math.MaxInt}, {0, math.MaxInt}, {3, math.MaxInt - 2},
		{1 << 62, 1 << 62}, {1 << 32, 3}, {0, 1<<32 + 3}, {1<<63 - 3, 3}, {0, math.MinInt}, {1, math.MinInt}, {-1, blocks}, {-1, 3}, {-3, 3}, {-3, 6},
	}
	for size := -3; size < 3; size++ {
		out = append(out, [2]int{0, size}, [2]int{1, size}, [2]int{blocks - 3, size})
	}
	return out
}

// P4.1 and P4.2: blocks that a log can't have, whatever the disk is like, and no operation.
func TestArguments(t *testing.T) {
	for _, blocks := range []int{1, 2, 3, 4, 8, 4096} {
		d := disk.New(blocks)
		for _, c := range noLogs(blocks) {
			if blocks >= 3 && c[0] == blocks-3 && c[1] == 3 {
				continue
			}
			d.Arm(0)
			wantErr(t, "Format", log.Format(d, c[0], c[1]), api.ErrArg)
			refuseOpen(t, d, c[0], c[1], api.ErrArg)
			if d.Down() {
				t.Fatalf("%v is an operation", c)
			}
			d.Sync()
			wantErr(t, "Format while down", log.Format(d, c[0], c[1]), api.ErrArg)
			refuseOpen(t, d, c[0], c[1], api.ErrArg)
			d.Up(nil, -1)
		}
		wantContents(t, d, make([]disk.Block, blocks))
	}
}

// P4.1: a log anywhere on a disk, of any size; the blocks beside it stay as they are.
func TestFormat(t *testing.T) {
	for _, c := range [][3]int{{3, 0, 3}, {4, 0, 3}, {4, 1, 3}, {4, 0, 4}, {8, 5, 3}, {8, 0, 8}, {8, 2, 4}, {4096, 0, 4096}, {4096, 4093, 3}, {4096, 1000, 300}} {
		d := junk(c[0])
		want := contents(d)
		wantErr(t, "Format", log.Format(d, c[1], c[2]), api.OK)
		want[c[1]], want[c[1]+1] = disk.Block{}, marked(1, 1, 0)
		wantContents(t, d, want)
		if d.Loose() != 0 {
			t.Errorf("%v: %d writes are unsynced", c, d.Loose())
		}
		l := wantOpen(t, d, c[1], c[2])
		wantLog(t, l, (c[2]-2)*256-8, 1)
		last := strings.Repeat("z", l.Left())
		put(t, l, last)
		wantErr(t, "Sync", l.Sync(), api.OK)
		wantOpen(t, d, c[1], c[2], last)
		for n, b := range contents(d) {
			if (n < c[1] || n >= c[1]+c[2]) && b != want[n] {
				t.Errorf("%v: block %d has changed", c, n)
			}
		}
	}
}

// P4.1: whatever was there before, the log is a new one.
func TestFormatAgain(t *testing.T) {
	d, l := fresh(t, "one", strings.Repeat("two", 100))
	for _, again := range []func(){
		func() {},
		func() { l.Restart() },
		func() { lay(d, 1, marked(1<<63, 7, 3), marked(1<<63+1, 9, 4), "") },
		func() { lay(d, 1, marked(math.MaxUint64-1, 7, 3), marked(math.MaxUint64, 9, 4), "") },
		func() { lay(d, 1, marked(4, 7, 768), marked(3, 9, 768), strings.Repeat(eight(0), 96)) },
	} {
		again()
		wantErr(t, "Format", log.Format(d, 1, 5), api.OK)
		wantLog(t, wantOpen(t, d, 1, 5), 760, 1)
	}
}

// P4.1: a full disk's error ends it: nothing is done behind it.
func TestFormatFull(t *testing.T) {
	before := contents(junk(8))
	for room := -1; room < 4; room++ {
		d := junk(8)
		d.Room(room)
		d.Arm(1)
		wantErr(t, "Format", log.Format(d, 2, 4), api.ErrFull)
		if d.Down() || d.Loose() != 0 {
			t.Errorf("room %d: Down %v, %d writes", room, d.Down(), d.Loose())
		}
		wantContents(t, d, before)
	}
	d := junk(8)
	d.Room(4)
	wantErr(t, "Format with room for the marks alone", log.Format(d, 2, 4), api.OK)
	wantOpen(t, d, 2, 4)
}

// P4.1: a disk that goes down, and one that is down.
func TestFormatDown(t *testing.T) {
	for fuse, loose := range []int{0, 1, 2} {
		d := junk(8)
		d.Arm(fuse)
		wantErr(t, "Format", log.Format(d, 2, 4), api.ErrDown)
		if d.Loose() != loose {
			t.Errorf("fuse %d: %d writes, want %d", fuse, d.Loose(), loose)
		}
		wantErr(t, "Format while down", log.Format(d, 2, 4), api.ErrDown)
		refuseOpen(t, d, 2, 4, api.ErrDown)
		d.Up(nil, -1)
		wantContents(t, d, contents(junk(8)))
	}
}

// P4.3: records fill the area to its last byte, be the ones before them synced or not; one byte more is refused.
func TestAppend(t *testing.T) {
	for size := 3; size < 7; size++ {
		area := (size - 2) * 256
		for _, n := range []int{0, 1, 8, 9, 100, 240, 241, 247, 248, area - 25, area - 24, area - 23, area - 17, area - 16, area - 15, area - 9, area - 8} {
			for _, before := range [][]string{nil, {strings.Repeat("b", n)}, {"", strings.Repeat("c", max(n-16, 0)), ""}} {
				if len(stored(before...)) <= area {
					fill(t, size, true, before)
					fill(t, size, false, before)
				}
			}
		}
	}
}

// fill appends to a log with some records what is too much, and then exactly as much as there is room for.
func fill(t *testing.T, size int, synced bool, before []string) {
	t.Helper()
	d := junk(9)
	log.Format(d, 1, size)
	l := wantOpen(t, d, 1, size)
	put(t, l, before...)
	if synced {
		wantErr(t, "Sync", l.Sync(), api.OK)
	}
	was := contents(d)
	d.Arm(0)
	free := (size-2)*256 - len(stored(before...))
	wantLog(t, l, max(free-8, 0), 1)
	for _, n := range []int{free - 7, free - 6, free, free + 1, free + 256, 1 << 20} {
		wantErr(t, "Append of too much", l.Append(make([]byte, max(n, 0))), api.ErrFull)
	}
	wantLog(t, l, max(free-8, 0), 1)
	want := before
	if free >= 8 {
		want = append(want[:len(want):len(want)], strings.Repeat("e", free-8))
		put(t, l, want[len(before)])
		wantLog(t, l, 0, 1)
		wantErr(t, "Append of nothing", l.Append(nil), api.ErrFull)
	}
	if d.Down() {
		t.Error("Append is an operation")
	}
	wantContents(t, d, was)
	d.Arm(-1)
	wantErr(t, "Sync", l.Sync(), api.OK)
	wantLog(t, wantOpen(t, d, 1, size, want...), max((size-2)*256-len(stored(want...))-8, 0), 1)
}

// P4.3: how much is left, record by record.
func TestLeft(t *testing.T) {
	_, l := fresh(t)
	left := 760
	for n := range 13 {
		wantLog(t, l, left, 1)
		put(t, l, strings.Repeat("l", n*6))
		left -= 8 + n*6
		if n%3 == 0 {
			wantErr(t, "Sync", l.Sync(), api.OK)
		}
	}
	wantLog(t, l, 188, 1)
	put(t, l, strings.Repeat("l", 173))
	wantLog(t, l, 7, 1)
	wantErr(t, "Append", l.Append(make([]byte, 8)), api.ErrFull)
	put(t, l, "")
	wantLog(t, l, 0, 1)
	wantErr(t, "Append", l.Append(nil), api.ErrFull)
	l.Drop()
	wantLog(t, l, 188, 1)
	put(t, l, strings.Repeat("l", 180))
	wantLog(t, l, 0, 1)
	l.Drop()
	put(t, l, strings.Repeat("l", 181))
	wantLog(t, l, 0, 1)
	l.Drop()
	put(t, l, strings.Repeat("l", 188))
	wantLog(t, l, 0, 1)
}

// P4.3: what was appended is dropped, and nothing else.
func TestDrop(t *testing.T) {
	d, l := fresh(t, "one")
	was := contents(d)
	d.Arm(0)
	l.Drop()
	put(t, l, "two", "", strings.Repeat("three", 50))
	l.Drop()
	wantLog(t, l, 749, 1)
	wantErr(t, "Sync of nothing", l.Sync(), api.OK)
	wantContents(t, d, was)
	put(t, l, "four")
	l.Drop()
	l.Drop()
	put(t, l, "five")
	if d.Down() {
		t.Error("an operation")
	}
	d.Arm(-1)
	wantErr(t, "Sync", l.Sync(), api.OK)
	l.Drop()
	wantOpen(t, d, 1, 5, "one", "five")
	put(t, l, "six")
	wantErr(t, "Sync", l.Sync(), api.OK)
	wantOpen(t, d, 1, 5, "one", "five", "six")
}

// P4.3: it doesn't matter to what is appended and dropped whether the disk is down.
func TestAppendWhileDown(t *testing.T) {
	d, l := fresh(t, "one")
	d.Arm(0)
	d.Sync()
	put(t, l, "two")
	wantLog(t, l, 738, 1)
	wantErr(t, "Append", l.Append(make([]byte, 739)), api.ErrFull)
	l.Drop()
	wantLog(t, l, 749, 1)
	wantErr(t, "Sync of nothing", l.Sync(), api.OK)
}

// R3: a record isn't kept nor changed, and its spare capacity isn't either.
func TestAppendMemory(t *testing.T) {
	d, l := fresh(t)
	for _, n := range []int{0, 1, 8, 300} {
		b, whole := roomy(bytes.Repeat([]byte{7}, n))
		was := bytes.Clone(whole)
		wantErr(t, "Append", l.Append(b), api.OK)
		if !bytes.Equal(whole, was) {
			t.Errorf("Append has changed its argument of %d bytes", n)
		}
		spoil(b)
	}
	wantErr(t, "Sync", l.Sync(), api.OK)
	wantOpen(t, d, 1, 5, "", "\x07", strings.Repeat("\x07", 8), strings.Repeat("\x07", 300))
}

// Two logs on one disk, which don't touch each other.
func TestNeighbours(t *testing.T) {
	d := junk(8)
	wantErr(t, "Format", log.Format(d, 0, 3), api.OK)
	wantErr(t, "Format", log.Format(d, 3, 5), api.OK)
	a, b := wantOpen(t, d, 0, 3), wantOpen(t, d, 3, 5)
	put(t, a, strings.Repeat("a", 248))
	put(t, b, "b")
	wantErr(t, "Sync", a.Sync(), api.OK)
	wantErr(t, "Restart", a.Restart(), api.OK)
	put(t, a, "aa")
	wantErr(t, "Sync", b.Sync(), api.OK)
	wantErr(t, "Sync", a.Sync(), api.OK)
	wantLog(t, wantOpen(t, d, 0, 3, "aa"), 238, 2)
	wantLog(t, wantOpen(t, d, 3, 5, "b"), 751, 1)
}

// The chapter's beginning: what the package imports.
func TestImportsApiAndDisk(t *testing.T) {
	files, err := filepath.Glob("*.go")
	if err != nil || len(files) == 0 {
		t.Fatal(files, err)
	}
	for _, name := range files {
		if strings.HasSuffix(name, "_test.go") {
			continue
		}
		f, err := parser.ParseFile(token.NewFileSet(), name, nil, parser.ImportsOnly)
		if err != nil {
			t.Fatal(err)
		}
		for _, i := range f.Imports {
			if i.Path.Value != `"touchmark/api"` && i.Path.Value != `"touchmark/disk"` {
				t.Errorf("%s imports %s", name, i.Path.Value)
			}
		}
	}
}
