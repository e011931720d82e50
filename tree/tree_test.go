package tree_test

import (
	"bytes"
	"fmt"
	"go/parser"
	"go/token"
	"maps"
	"math"
	"path/filepath"
	"slices"
	"strings"
	"testing"

	"touchmark/api"
	"touchmark/disk"
	"touchmark/page"
	"touchmark/tree"
)

const logSize = 300

// newPager is a pager with so many pages besides the header, none of them in use, and its disk.
func newPager(t *testing.T, pages int) (*disk.Disk, *page.Pager) {
	t.Helper()
	d := disk.New(logSize + 1 + pages)
	wantErr(t, "Format", page.Format(d, logSize), api.OK)
	return d, openPager(t, d, 50)
}

func openPager(t *testing.T, d *disk.Disk, hold int) *page.Pager {
	t.Helper()
	p, e := page.Open(d, logSize, hold)
	if e != api.OK {
		t.Fatalf("page.Open: %d", e)
	}
	return p
}

// room is how many pages can be allocated.
func room(p *page.Pager) int {
	var all []int
	for {
		n, e := p.Alloc()
		if e != api.OK {
			break
		}
		all = append(all, n)
	}
	for _, n := range all {
		p.Free(n)
	}
	return len(all)
}

func newTree(t *testing.T, p *page.Pager) *tree.Tree {
	t.Helper()
	x, e := tree.Make(p)
	if x == nil || e != api.OK {
		t.Fatalf("Make: %v, %d", x, e)
	}
	return x
}

func wantErr(t *testing.T, what string, got, want api.Errno) {
	t.Helper()
	if got != want {
		t.Errorf("%s: %d, want %d", what, got, want)
	}
}

func set(t *testing.T, x *tree.Tree, key string, v uint64) {
	t.Helper()
	wantErr(t, fmt.Sprintf("Set(%q)", key), x.Set([]byte(key), v), api.OK)
}

func wantDelete(t *testing.T, x *tree.Tree, key string, want bool) {
	t.Helper()
	if ok, e := x.Delete([]byte(key)); ok != want || e != api.OK {
		t.Errorf("Delete(%q): %v, %d, want %v", key, ok, e, want)
	}
}

func wantGet(t *testing.T, x *tree.Tree, key string, want uint64) {
	t.Helper()
	if v, ok, e := x.Get([]byte(key)); v != want || !ok || e != api.OK {
		t.Errorf("Get(%q): %d, %v, %d, want %d", key, v, ok, e, want)
	}
}

func wantNone(t *testing.T, x *tree.Tree, key string) {
	t.Helper()
	if v, ok, e := x.Get([]byte(key)); v != 0 || ok || e != api.OK {
		t.Errorf("Get(%q): %d, %v, %d, want none", key, v, ok, e)
	}
}

// entries are those that All yields, as texts.
func entries(x *tree.Tree, from, to string, end bool) []string {
	var out []string
	for k, v := range x.All([]byte(from), []byte(to), end) {
		out = append(out, told(string(k), v))
	}
	return out
}

func told(key string, v uint64) string {
	return fmt.Sprintf("%q=%d", key, v)
}

func wantEntries(t *testing.T, x *tree.Tree, from, to string, end bool, want ...string) {
	t.Helper()
	if got := entries(x, from, to, end); !slices.Equal(got, want) {
		t.Errorf("All(%q, %q, %v): %q, want %q", from, to, end, got, want)
	}
}

// wantContents holds a whole tree against its entries.
func wantContents(t *testing.T, x *tree.Tree, want map[string]uint64) {
	t.Helper()
	keys := slices.Sorted(maps.Keys(want))
	var list []string
	for _, k := range keys {
		list = append(list, told(k, want[k]))
		wantGet(t, x, k, want[k])
	}
	wantEntries(t, x, "", "", false, list...)
}

// The chapter's examples.
func TestExamples(t *testing.T) {
	_, p := newPager(t, 699)
	x := newTree(t, p)
	set(t, x, "b", 2)
	set(t, x, "a", 1)
	set(t, x, "", 0)
	wantGet(t, x, "b", 2)
	wantNone(t, x, "c")
	wantEntries(t, x, "", "", false, `""=0`, `"a"=1`, `"b"=2`)
	wantEntries(t, x, "a", "b", true, `"a"=1`)
	wantEntries(t, x, "a", "", true)
	wantDelete(t, x, "a", true)
	wantDelete(t, x, "a", false)
	set(t, x, "b", 5)
	wantGet(t, x, "b", 5)
	wantErr(t, "Set", x.Set(make([]byte, 97), 1), api.ErrBytes)
}

// The chapter's last example, with its keys set in several orders.
func TestExampleOfManyKeys(t *testing.T) {
	for _, step := range []int{1, 3, 43, 127, 211, 373, 499} {
		_, p := newPager(t, 699)
		x := newTree(t, p)
		key := func(i int) string {
			n := i * step % 500
			return fmt.Sprintf("%0*d", 3+n%90, n)
		}
		want := map[string]uint64{}
		for i := range 500 {
			set(t, x, key(i), uint64(i))
			want[key(i)] = uint64(i)
		}
		wantContents(t, x, want)
		for i := 0; i < 500; i += 3 {
			wantDelete(t, x, key(i), true)
			delete(want, key(i))
		}
		wantContents(t, x, want)
		wantErr(t, "Drop", x.Drop(), api.OK)
		if room(p) != 699 {
			t.Errorf("%d pages are left", room(p))
		}
	}
}

// P6.1: a new tree has no entries, whatever was on its page, and a page of its own; trees on one pager are independent.
func TestMake(t *testing.T) {
	_, p := newPager(t, 60)
	n, _ := p.Alloc()
	p.Put(n, disk.Block{1, 1, 1, 'a', 255, 255})
	p.Free(n)
	roots := map[int]bool{}
	var all []*tree.Tree
	for range 10 {
		before := room(p)
		x := newTree(t, p)
		if b, e := p.Get(x.Root()); e != api.OK {
			t.Errorf("the root's page %d: %v, %d", x.Root(), b, e)
		}
		if used := before - room(p); used < 1 || used > 8 {
			t.Errorf("%d pages are used", used)
		}
		wantNone(t, x, "")
		wantNone(t, x, "a")
		wantDelete(t, x, "", false)
		wantEntries(t, x, "", "", false)
		roots[x.Root()] = true
		all = append(all, x)
	}
	if len(roots) != 10 {
		t.Errorf("%d roots", len(roots))
	}
	for i, x := range all {
		set(t, x, "a", uint64(i))
		set(t, x, fmt.Sprint(i), 7)
	}
	wantErr(t, "Drop", all[3].Drop(), api.OK)
	for i, x := range all {
		if i != 3 {
			wantEntries(t, x, "", "", false, told(fmt.Sprint(i), 7), told("a", uint64(i)))
		}
	}
}

// P6.1: the pager's error of a Make, and no tree beside it.
func TestMakeRefused(t *testing.T) {
	d, p := newPager(t, 2)
	newTree(t, p)
	newTree(t, p)
	if x, e := tree.Make(p); x != nil || e != api.ErrFull {
		t.Errorf("Make on a full disk: %v, %d", x, e)
	}
	p.Free(1)
	p.Free(2)
	wantErr(t, "Commit", p.Commit(), api.OK)
	p = openPager(t, d, 0)
	d.Arm(0)
	d.Sync()
	if x, e := tree.Make(p); x != nil || e != api.ErrDown {
		t.Errorf("Make on a disk that is down: %v, %d", x, e)
	}
}

// P6.1: the root is the one that the tree was opened with, and the tree that of its root.
func TestOpen(t *testing.T) {
	_, p := newPager(t, 200)
	for _, root := range []int{0, 1, 7, -1, math.MinInt, math.MaxInt} {
		if x := tree.Open(p, root); x == nil || x.Root() != root {
			t.Errorf("Open(%d): %v", root, x)
		}
	}
	x := newTree(t, p)
	want := map[string]uint64{}
	for i := range 60 {
		key := strings.Repeat("x", i) + "y"
		set(t, x, key, uint64(i))
		want[key] = uint64(i)
		y := tree.Open(p, x.Root())
		if y.Root() != x.Root() {
			t.Errorf("the root is %d, want %d", y.Root(), x.Root())
		}
		wantContents(t, y, want)
	}
	y := tree.Open(p, x.Root())
	for key := range want {
		wantDelete(t, y, key, true)
		wantNone(t, tree.Open(p, y.Root()), key)
	}
	wantEntries(t, tree.Open(p, y.Root()), "", "", false)
}

// P6.2: keys of up to 96 bytes can be set; longer ones are refused, and nothing is changed.
func TestLongKeys(t *testing.T) {
	_, p := newPager(t, 300)
	x := newTree(t, p)
	want := map[string]uint64{}
	for n := range 97 {
		key := strings.Repeat("k", n)
		set(t, x, key, uint64(n))
		want[key] = uint64(n)
	}
	wantContents(t, x, want)
	wantErr(t, "Commit", p.Commit(), api.OK)
	for _, n := range []int{97, 98, 104, 105, 127, 128, 191, 192, 255, 256, 257, 352, 353, 1000, 65536, 65632} {
		key := strings.Repeat("k", n)
		wantErr(t, "Set", x.Set([]byte(key), 1), api.ErrBytes)
		wantNone(t, x, key)
		wantDelete(t, x, key, false)
	}
	if p.Changed() != 0 {
		t.Errorf("%d pages are changed", p.Changed())
	}
	wantContents(t, x, want)
	set(t, x, "k", 77) // with ErrBytes the tree goes on
	want["k"] = 77
	wantContents(t, x, want)
}

// P6.2: keys of any bytes, in the order of their bytes, a proper prefix first; nil is the empty key.
func TestAnyKeys(t *testing.T) {
	_, p := newPager(t, 600)
	x := newTree(t, p)
	want := map[string]uint64{}
	for a := range 256 {
		for _, key := range []string{string([]byte{byte(a)}), string([]byte{byte(a), 0}), string([]byte{byte(a), 255})} {
			set(t, x, key, uint64(len(want)))
			want[key] = uint64(len(want))
		}
	}
	wantContents(t, x, want)
	wantErr(t, "Set(nil)", x.Set(nil, 9), api.OK)
	wantGet(t, x, "", 9)
	want[""] = 9
	wantContents(t, x, want)
	if ok, e := x.Delete(nil); !ok || e != api.OK {
		t.Errorf("Delete(nil): %v, %d", ok, e)
	}
	wantNone(t, x, "")
}

// P6.2: numbers of any 64 bits, 0 among them, and the last one that was set.
func TestAnyNumbers(t *testing.T) {
	_, p := newPager(t, 100)
	x := newTree(t, p)
	numbers := []uint64{0, 1, 255, 256, 1 << 31, 1 << 32, 1<<63 - 1, 1 << 63, math.MaxUint64, 0x0102030405060708}
	for i, v := range numbers {
		set(t, x, fmt.Sprint(i), v)
		set(t, x, "last", v)
		wantGet(t, x, "last", v)
	}
	for i, v := range numbers {
		wantGet(t, x, fmt.Sprint(i), v)
	}
	if n := len(entries(x, "", "", false)); n != len(numbers)+1 {
		t.Errorf("%d entries", n)
	}
}

// R3: arguments are neither changed, nor kept, also not what is behind their ends.
func TestArgumentsAreFree(t *testing.T) {
	_, p := newPager(t, 400)
	x := newTree(t, p)
	want := map[string]uint64{}
	buf := bytes.Repeat([]byte{'z'}, 200)
	for i := range 120 {
		text := fmt.Sprintf("%0*d", 3+i%90, i)
		key := buf[:copy(buf, text)]
		wantErr(t, "Set", x.Set(key, uint64(i)), api.OK)
		x.Get(key)
		x.All(key, key, true)(func([]byte, uint64) bool { return true })
		if i%4 == 0 {
			x.Delete(key)
		} else {
			want[text] = uint64(i)
		}
		if string(buf[:len(text)]) != text || strings.Trim(string(buf[len(text):]), "z") != "" {
			t.Fatalf("the argument became %q", buf)
		}
		for j := range buf {
			buf[j] = 'z'
		}
	}
	wantContents(t, x, want)
}

// The chapter's first paragraph: the package imports api, disk and page, and nothing else of the project.
func TestImports(t *testing.T) {
	files, err := filepath.Glob("*.go")
	if err != nil || len(files) == 0 {
		t.Fatal(files, err)
	}
	for _, name := range files {
		if strings.HasSuffix(name, "_test.go") {
			continue
		}
		f, err := parser.ParseFile(token.NewFileSet(), name, nil, parser.ImportsOnly)
		if err != nil {
			t.Fatal(err)
		}
		for _, i := range f.Imports {
			switch path := strings.Trim(i.Path.Value, `"`); path {
			case "touchmark/api", "touchmark/disk", "touchmark/page", "bytes", "iter", "math", "slices":
			default:
				t.Errorf("%s imports %s", name, path)
			}
		}
	}
}
