package page_test

import (
	"encoding/binary"
	"go/parser"
	"go/token"
	"math"
	"math/rand"
	"path/filepath"
	"strings"
	"testing"

	"touchmark/api"
	"touchmark/disk"
	"touchmark/log"
	"touchmark/page"
)

func eight(n uint64) string {
	return string(binary.BigEndian.AppendUint64(nil, n))
}

// block begins with some bytes; the others are zero.
func block(s string) disk.Block {
	var b disk.Block
	copy(b[:], s)
	return b
}

// full is a block of one byte all over.
func full(x byte) disk.Block {
	return block(strings.Repeat(string([]byte{x}), 256))
}

// headed is a header as the chapter has it; the roots that aren't told are 0.
func headed(used, head uint64, roots ...uint64) disk.Block {
	s := eight(used) + eight(head)
	for _, r := range roots {
		s += eight(r)
	}
	return block(s)
}

// entry is a page in a record.
func entry(n uint64, b disk.Block) string {
	return eight(n) + string(b[:])
}

// junk is a disk whose blocks have no byte 0, all synced.
func junk(blocks int) *disk.Disk {
	d := disk.New(blocks)
	r := rand.New(rand.NewSource(int64(blocks)))
	for n := range blocks {
		var b disk.Block
		for i := range b {
			b[i] = byte(r.Intn(255) + 1)
		}
		d.Write(n, b)
	}
	d.Sync()
	return d
}

// contents are all blocks as they would be read, also if the disk is down.
func contents(d *disk.Disk) []disk.Block {
	d = d.Copy()
	if d.Down() {
		d.Up(keepAll(d), -1)
	}
	var all []disk.Block
	for n := range d.Blocks() {
		b, _ := d.Read(n)
		all = append(all, b)
	}
	return all
}

func keepAll(d *disk.Disk) []bool {
	keep := make([]bool, d.Loose())
	for i := range keep {
		keep[i] = true
	}
	return keep
}

// records are those in the log of a disk.
func records(t *testing.T, d *disk.Disk, size int) []string {
	t.Helper()
	_, read, e := log.Open(d, 0, size)
	wantErr(t, "log.Open", e, api.OK)
	var all []string
	for _, r := range read {
		all = append(all, string(r))
	}
	return all
}

func wantRecords(t *testing.T, d *disk.Disk, size int, want ...string) {
	t.Helper()
	got := records(t, d, size)
	if len(got) != len(want) {
		t.Fatalf("%d records, want %d", len(got), len(want))
	}
	for i, r := range got {
		if r != want[i] {
			t.Errorf("record %d: %q, want %q", i, r, want[i])
		}
	}
}

func wantErr(t *testing.T, what string, got, want api.Errno) {
	t.Helper()
	if got != want {
		t.Errorf("%s: %d, want %d", what, got, want)
	}
}

func wantContents(t *testing.T, d *disk.Disk, want []disk.Block) {
	t.Helper()
	for n, b := range contents(d) {
		if b != want[n] {
			t.Errorf("block %d: %q, want %q", n, b, want[n])
		}
	}
}

func mustOpen(t *testing.T, d *disk.Disk, size, hold int) *page.Pager {
	t.Helper()
	p, e := page.Open(d, size, hold)
	if e != api.OK || p == nil {
		t.Fatalf("Open(%d, %d): %v, %d", size, hold, p, e)
	}
	return p
}

// refuseOpen wants an error, and no pager beside it.
func refuseOpen(t *testing.T, d *disk.Disk, size int, want api.Errno) {
	t.Helper()
	for _, hold := range holds() {
		if p, e := page.Open(d, size, hold); e != want || p != nil {
			t.Errorf("Open(%d, %d): %v, %d, want %d and no pager", size, hold, p, e, want)
		}
	}
}

// holds are numbers of pages to be held, from none on.
func holds() []int {
	return []int{math.MinInt, -7, -1, 0, 1, 2, 3, 5, 100, math.MaxInt}
}

func wantGet(t *testing.T, p *page.Pager, n int, want disk.Block) {
	t.Helper()
	if b, e := p.Get(n); e != api.OK || b != want {
		t.Errorf("Get(%d): %d %.40q, want %.40q", n, e, b, want)
	}
}

// refuseGet wants an error, and no page beside it.
func refuseGet(t *testing.T, p *page.Pager, n int, want api.Errno) {
	t.Helper()
	if b, e := p.Get(n); e != want || b != (disk.Block{}) {
		t.Errorf("Get(%d): %d %.40q, want %d and no page", n, e, b, want)
	}
}

func wantAlloc(t *testing.T, p *page.Pager, want ...int) {
	t.Helper()
	for _, w := range want {
		if n, e := p.Alloc(); n != w || e != api.OK {
			t.Errorf("Alloc: %d, %d, want %d", n, e, w)
		}
		wantGet(t, p, w, disk.Block{})
	}
}

func refuseAlloc(t *testing.T, p *page.Pager, want api.Errno) {
	t.Helper()
	if n, e := p.Alloc(); n != 0 || e != want {
		t.Errorf("Alloc: %d, %d, want %d", n, e, want)
	}
}

func put(t *testing.T, p *page.Pager, n int, b disk.Block) {
	t.Helper()
	wantErr(t, "Put", p.Put(n, b), api.OK)
}

func wantChanged(t *testing.T, p *page.Pager, want int) {
	t.Helper()
	if p.Changed() != want {
		t.Errorf("%d pages are changed, want %d", p.Changed(), want)
	}
}

// fresh is a pager on a disk of junk, with a log of 16 blocks and 24 pages, of which some are in use and committed; each is full of its number. The log has no record.
func fresh(t *testing.T, pages, hold int) (*disk.Disk, *page.Pager) {
	t.Helper()
	d := junk(40)
	wantErr(t, "Format", page.Format(d, 16), api.OK)
	p := mustOpen(t, d, 16, hold)
	for n := 1; n <= pages; n++ {
		wantAlloc(t, p, n)
		put(t, p, n, full(byte(n)))
		wantErr(t, "Commit", p.Commit(), api.OK)
	}
	wantErr(t, "Checkpoint", p.Checkpoint(), api.OK)
	wantRecords(t, d, 16)
	return d, p
}

// The chapter's examples.
func TestExamples(t *testing.T) {
	b, c := full('b'), full('c')
	d := disk.New(40)
	wantErr(t, "Format", page.Format(d, 16), api.OK)
	p := mustOpen(t, d, 16, 4)
	refuseGet(t, p, 0, api.ErrRange)
	refuseGet(t, p, 1, api.ErrRange)
	if p.Root(0) != 0 {
		t.Errorf("Root(0): %d", p.Root(0))
	}
	wantAlloc(t, p, 1, 2)
	put(t, p, 1, b)
	wantErr(t, "Free", p.Free(2), api.OK)
	wantAlloc(t, p, 2)
	wantChanged(t, p, 2)
	wantErr(t, "Commit", p.Commit(), api.OK)
	put(t, p, 1, c)
	p.Abort()
	wantGet(t, p, 1, b)
	put(t, p, 1, c)
	wantGet(t, mustOpen(t, d, 16, 4), 1, b)

	page.Format(d, 16)
	p = mustOpen(t, d, 16, 4)
	for n := 1; n <= 23; n++ {
		wantAlloc(t, p, n)
	}
	refuseAlloc(t, p, api.ErrFull)
}

// noPages are numbers that are no page in use if so many are.
func noPages(used int) []int {
	return []int{0, -1, -2, -256, math.MinInt, math.MinInt32, used, used + 1, used + 16, 4096, 1 << 32, 1<<32 + 1, math.MaxInt32, math.MaxInt}
}

// P5.3 and P5.4: what is no page in use is neither told, nor changed, nor freed; the header is none either.
func TestNoPages(t *testing.T) {
	for _, used := range []int{1, 2, 5, 24} {
		d, p := fresh(t, used-1, 3)
		was := contents(d)
		for _, n := range noPages(used) {
			refuseGet(t, p, n, api.ErrRange)
			wantErr(t, "Put", p.Put(n, full(9)), api.ErrRange)
			wantErr(t, "Free", p.Free(n), api.ErrRange)
		}
		wantChanged(t, p, 0)
		wantErr(t, "Commit", p.Commit(), api.OK)
		wantContents(t, d, was)
		for n := 1; n < used; n++ {
			wantGet(t, p, n, full(byte(n)))
		}
	}
}

// P5.3: a page that was put is the new one, and the others stay; pages that Alloc has not returned yet can't be had.
func TestPut(t *testing.T) {
	for _, hold := range holds() {
		_, p := fresh(t, 4, hold)
		put(t, p, 1, full('x'))
		put(t, p, 4, block("four"))
		put(t, p, 1, block("one"))
		for n, want := range map[int]disk.Block{1: block("one"), 2: full(2), 3: full(3), 4: block("four")} {
			wantGet(t, p, n, want)
			wantGet(t, p, n, want)
		}
		wantErr(t, "Put", p.Put(5, full(5)), api.ErrRange)
		wantAlloc(t, p, 5)
		put(t, p, 5, full(5))
		wantGet(t, p, 5, full(5))
		wantErr(t, "Put", p.Put(6, full(5)), api.ErrRange)
	}
}

// P5.3 and R3: a page that was told or given is no piece of the pager.
func TestPagesAreCopies(t *testing.T) {
	_, p := fresh(t, 1, 2)
	b := full('a')
	put(t, p, 1, b)
	b[0] = 'z'
	wantGet(t, p, 1, full('a'))
	c, _ := p.Get(1)
	c[1] = 'z'
	wantGet(t, p, 1, full('a'))
	wantErr(t, "Commit", p.Commit(), api.OK)
	c, _ = p.Get(1)
	c[2] = 'z'
	wantGet(t, p, 1, full('a'))
}

// noRoots are numbers that no root has.
func noRoots() []int {
	return []int{-1, -2, -16, math.MinInt, 16, 17, 18, 256, 1 << 32, 1<<32 + 3, math.MaxInt}
}

// P5.3: the roots, each of any 8 bytes, and none beside them.
func TestRoots(t *testing.T) {
	d, p := fresh(t, 2, 0)
	values := func(i int) uint64 { return 0x8899aabbccddeeff<<(4*i) ^ uint64(i+1) }
	for i := range 16 {
		if p.Root(i) != 0 {
			t.Errorf("Root(%d): %d", i, p.Root(i))
		}
		wantErr(t, "SetRoot", p.SetRoot(i, values(i)), api.OK)
	}
	for _, i := range noRoots() {
		wantErr(t, "SetRoot", p.SetRoot(i, 77), api.ErrRange)
		if p.Root(i) != 0 {
			t.Errorf("Root(%d): %d", i, p.Root(i))
		}
	}
	wantErr(t, "Commit", p.Commit(), api.OK)
	var all []uint64
	for _, q := range []*page.Pager{p, mustOpen(t, d, 16, 3)} {
		all = nil
		for i := range 16 {
			if all = append(all, values(i)); q.Root(i) != values(i) {
				t.Errorf("Root(%d): %d, want %d", i, q.Root(i), values(i))
			}
		}
		wantGet(t, q, 1, full(1))
		wantGet(t, q, 2, full(2))
		refuseGet(t, q, 3, api.ErrRange)
	}
	wantRecords(t, d, 16, entry(0, headed(3, 0, all...)))
}

// P5.3: only the root that was set is another one.
func TestSetRootAlone(t *testing.T) {
	for i := range 16 {
		_, p := fresh(t, 1, 1)
		wantErr(t, "SetRoot", p.SetRoot(i, math.MaxUint64), api.OK)
		wantChanged(t, p, 1)
		for j := range 16 {
			if want := map[bool]uint64{true: math.MaxUint64}[i == j]; p.Root(j) != want {
				t.Errorf("SetRoot(%d): Root(%d) is %d", i, j, p.Root(j))
			}
		}
		wantAlloc(t, p, 2)
	}
}

// The chapter's first paragraph: the package imports api, disk and log, and nothing else of the project.
func TestImports(t *testing.T) {
	files, err := filepath.Glob("*.go")
	if err != nil || len(files) == 0 {
		t.Fatal(files, err)
	}
	for _, name := range files {
		if strings.HasSuffix(name, "_test.go") {
			continue
		}
		f, err := parser.ParseFile(token.NewFileSet(), name, nil, parser.ImportsOnly)
		if err != nil {
			t.Fatal(err)
		}
		for _, i := range f.Imports {
			switch path := strings.Trim(i.Path.Value, `"`); path {
			case "touchmark/api", "touchmark/disk", "touchmark/log", "maps", "slices":
			default:
				t.Errorf("%s imports %s", name, path)
			}
		}
	}
}
