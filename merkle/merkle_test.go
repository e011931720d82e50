package merkle_test

import (
	"bytes"
	"encoding/hex"
	"fmt"
	"go/parser"
	"go/token"
	"math"
	"path/filepath"
	"slices"
	"strings"
	"testing"

	"touchmark/merkle"
	"touchmark/sha"
)

// number is n as 8 bytes, most significant byte first.
func number(n int64) []byte {
	b := make([]byte, 8)
	for i := range b {
		b[i] = byte(n >> (56 - 8*i))
	}
	return b
}

// numbered are entries of keys, with the counts 1, 2, ...
func numbered(keys ...string) []merkle.Entry {
	var l []merkle.Entry
	for i, k := range keys {
		l = append(l, merkle.Entry{Key: []byte(k), Count: int64(i + 1)})
	}
	return l
}

// told is a list of entries as a text.
func told(l []merkle.Entry) string {
	var b strings.Builder
	for _, x := range l {
		fmt.Fprintf(&b, "%q=%d ", x.Key, x.Count)
	}
	return b.String()
}

func build(t *testing.T, l []merkle.Entry) *merkle.Tree {
	t.Helper()
	x := merkle.Build(l)
	if x == nil {
		t.Fatalf("Build(%s) is nil", told(l))
	}
	return x
}

func set(t *testing.T, x *merkle.Tree, key string, count int64) {
	t.Helper()
	if !x.Set([]byte(key), count) {
		t.Fatalf("Set(%.20q, %d) is false", key, count)
	}
}

// wantTree holds a tree against its entries.
func wantTree(t *testing.T, x *merkle.Tree, want []merkle.Entry) {
	t.Helper()
	if got := x.All(); told(got) != told(want) {
		t.Errorf("All: %s, want %s", told(got), told(want))
	}
	if x.Root() != rootOf(want) {
		t.Errorf("another root of %s", told(want))
	}
}

// The chapter's examples.
func TestExamples(t *testing.T) {
	e := sha.Of([]byte("empty"))
	if build(t, nil).Root() != e {
		t.Error("the empty tree's root")
	}
	one := build(t, numbered("a"))
	if one.Root() != sha.Of([]byte("node"), e[:], []byte("a"), number(1), e[:]) {
		t.Error("the root of one entry")
	}
	if merkle.Build(numbered("b", "a")) != nil || merkle.Build([]merkle.Entry{{Key: []byte("a")}}) != nil {
		t.Error("a list that is not valid is built")
	}
	p := build(t, nil).Prove(nil, nil, false)
	if !bytes.Equal(p, []byte{0}) {
		t.Errorf("the empty tree's proof: %v", p)
	}
	wantVerify(t, e, span{}, p, 0)
	d := one.Root()
	wantVerify(t, d, span{}, append([]byte{1}, d[:]...), 50)
}

// P7.1, P7.2: roots and proofs that another program has computed.
func TestKnownDigests(t *testing.T) {
	var many, long []merkle.Entry
	for i := range 300 {
		many = append(many, merkle.Entry{Key: fmt.Appendf(nil, "%03d", i), Count: int64(i + 1)})
	}
	for i := 0; i < 400; i += 3 {
		long = append(long, merkle.Entry{Key: bytes.Repeat([]byte("k"), i), Count: int64(i*i + 1)})
	}
	long = append(long, merkle.Entry{Key: bytes.Repeat([]byte("k"), 65535), Count: 7})
	three := numbered("a", "b", "c")
	three[2].Count = math.MaxInt64
	for i, c := range []struct {
		l    []merkle.Entry
		root string
	}{
		{nil, "a1b3bdf759b06813b8b3193197b459dda03e01c1e9668a3446f7e527b3b16c12"},
		{numbered(""), "df393015de392f882a4b8c7e5cc63e2e231207f8a4ffec323becd8e9f04cc56e"},
		{three, "09de2ae187063aed3de5150c6cb55ed18299d8d20938cd8a3b6a4c9453077e61"},
		{many, "fb16e582a1318ccef2f93ef4c5f0cad30f0e1a46eee379d107f12cafca6d7119"},
		{long, "5fcd8e306ff0ce06ece5751b97fae450a255ee6796d53898762e12d1d3bdc60b"},
	} {
		if d := build(t, c.l).Root(); hex.EncodeToString(d[:]) != c.root {
			t.Errorf("list %d: %x, want %s", i, d, c.root)
		}
	}
	p := build(t, numbered("a", "b", "c", "d", "e")).Prove([]byte("c"), nil, false)
	want := "02" + "02" + "01" + "4e02bbb71f8693156090e221f9c72a5e939eea4450c845a032db1a17b48b995f" + "0001" + "63" + "0000000000000003" +
		"02" + "00" + "0001" + "64" + "0000000000000004" + "00" + "0001" + "65" + "0000000000000005" + "00"
	if hex.EncodeToString(p) != want {
		t.Errorf("the proof from c on: %x, want %s", p, want)
	}
}

// invalid are lists of entries that are not valid.
func invalid() map[string][]merkle.Entry {
	long := merkle.Entry{Key: bytes.Repeat([]byte{255}, 65536), Count: 1}
	count := func(n int64) []merkle.Entry {
		l := numbered("a", "b", "c")
		l[1].Count = n
		return l
	}
	return map[string][]merkle.Entry{
		"a count of 0":                        {{Key: []byte("a")}},
		"a negative count":                    {{Key: []byte("a"), Count: -1}},
		"the least count":                     {{Key: []byte("a"), Count: math.MinInt64}},
		"a count of 0 between others":         count(0),
		"a negative count between others":     count(-1 << 32),
		"a long key":                          {long},
		"a long key behind others":            append(numbered("a", "b"), long),
		"a longer key":                        {{Key: make([]byte, 1<<17), Count: 1}},
		"a key of a length of 3 bytes":        {{Key: make([]byte, 1<<16+5), Count: 1}},
		"descending keys":                     numbered("b", "a"),
		"the last key out of order":           numbered("a", "b", "c", "bb"),
		"the first key out of order":          numbered("b", "a", "c", "d"),
		"a key twice":                         numbered("a", "a"),
		"a key twice at the end":              numbered("a", "b", "b"),
		"the empty key twice":                 numbered("", ""),
		"the empty key last":                  numbered("a", ""),
		"a prefix behind the longer key":      numbered("ab", "a"),
		"a prefix behind the key with a zero": numbered("a\x00", "a"),
		"signed bytes":                        numbered("\xff", "a"),
		"equal keys with another between":     numbered("a", "b", "a"),
	}
}

// P7.1: a list that is not valid is no tree.
func TestBuildRefuses(t *testing.T) {
	for name, l := range invalid() {
		if merkle.Build(l) != nil {
			t.Errorf("%s: a tree is built", name)
		}
	}
}

// P7.1: valid lists at the edges: no entry, the empty key, prefixes, the longest key, the largest count.
func TestBuildTakes(t *testing.T) {
	longest := merkle.Entry{Key: bytes.Repeat([]byte{255}, 65535), Count: math.MaxInt64}
	for _, l := range [][]merkle.Entry{
		nil, {}, numbered(""), numbered("", "\x00"), numbered("a", "a\x00", "a\x00\x00", "aa", "b"),
		numbered("\x00", "\x7f", "\x80", "\xff"), {longest}, append(numbered("", "a"), longest),
		{{Key: nil, Count: 1}, {Key: []byte{0}, Count: 1}},
	} {
		wantTree(t, build(t, l), l)
	}
}

// P7.1: of a key that is too long and of a negative count Set refuses, and changes nothing.
func TestSetRefuses(t *testing.T) {
	l := numbered("a", "b", "c")
	for _, x := range []*merkle.Tree{build(t, nil), build(t, l)} {
		want := x.All()
		for _, c := range []struct {
			key   []byte
			count int64
		}{
			{make([]byte, 65536), 1}, {make([]byte, 65536), 0}, {make([]byte, 65537), 5}, {make([]byte, 1<<17), 1}, {make([]byte, 65536), -1},
			{[]byte("b"), -1}, {[]byte("bb"), -1}, {nil, -1}, {[]byte("b"), math.MinInt64}, {[]byte("b"), -1 << 32},
		} {
			if x.Set(c.key, c.count) {
				t.Errorf("Set of %d bytes, %d is true", len(c.key), c.count)
			}
			wantTree(t, x, want)
		}
	}
}

// P7.1: Set adds entries, changes counts, and removes entries, also ones that are not there.
func TestSet(t *testing.T) {
	x := build(t, nil)
	longest := strings.Repeat("z", 65535)
	for _, c := range []struct {
		key   string
		count int64
		want  []merkle.Entry
	}{
		{"", 0, nil},
		{"b", 1, []merkle.Entry{{Key: []byte("b"), Count: 1}}},
		{"a", 2, []merkle.Entry{{Key: []byte("a"), Count: 2}, {Key: []byte("b"), Count: 1}}},
		{"b", 0, []merkle.Entry{{Key: []byte("a"), Count: 2}}},
		{"b", 0, []merkle.Entry{{Key: []byte("a"), Count: 2}}},
		{"a", math.MaxInt64, []merkle.Entry{{Key: []byte("a"), Count: math.MaxInt64}}},
		{"a", math.MaxInt64, []merkle.Entry{{Key: []byte("a"), Count: math.MaxInt64}}},
		{"a", 1, []merkle.Entry{{Key: []byte("a"), Count: 1}}},
		{"", 3, []merkle.Entry{{Count: 3}, {Key: []byte("a"), Count: 1}}},
		{"a", 0, []merkle.Entry{{Count: 3}}},
		{longest, 4, []merkle.Entry{{Count: 3}, {Key: []byte(longest), Count: 4}}},
		{longest, 0, []merkle.Entry{{Count: 3}}},
		{"", 0, nil},
		{"", 0, nil},
	} {
		set(t, x, c.key, c.count)
		wantTree(t, x, c.want)
	}
}

// Section 'Ways': a change makes new nodes on the path from the root, so that a tree from before the change is as it was.
func TestChangesCopyThePath(t *testing.T) {
	var before []*merkle.Tree
	var lists [][]merkle.Entry
	x := build(t, nil)
	for i := range 60 {
		y := *x
		before, lists = append(before, &y), append(lists, x.All())
		set(t, x, fmt.Sprint(i*7%20), int64(i%3))
	}
	for i, y := range before {
		wantTree(t, y, lists[i])
	}
	set(t, before[20], "new", 5)
	wantTree(t, before[21], lists[21])
}

// R3: arguments are neither changed, nor kept, also not what is behind their ends.
func TestArgumentsAreFree(t *testing.T) {
	buf := bytes.Repeat([]byte{'z'}, 30)
	fill := func(text string) []byte {
		for i := range buf {
			buf[i] = 'z'
		}
		return buf[:copy(buf, text)]
	}
	same := func(text string) {
		t.Helper()
		if string(buf) != text+strings.Repeat("z", 30-len(text)) {
			t.Errorf("%q became %q", text, buf)
		}
	}
	x := build(t, []merkle.Entry{{Key: fill("key 1"), Count: 1}})
	same("key 1")
	x.Set(fill("key 2"), 2)
	same("key 2")
	x.Set(fill("key 0"), 3)
	same("key 0")
	fill("key 9")
	wantTree(t, x, []merkle.Entry{{Key: []byte("key 0"), Count: 3}, {Key: []byte("key 1"), Count: 1}, {Key: []byte("key 2"), Count: 2}})
	p := x.Prove(fill("key 1"), nil, false)
	same("key 1")
	if q := x.Prove([]byte("a"), fill("key 1"), true); len(q) == 0 {
		t.Error("no proof")
	}
	same("key 1")
	long := append(slices.Clone(p), "zzzz"...)
	if l, e := merkle.Verify(x.Root(), fill("key 1"), fill("key 1")[:0], false, long[:len(p)]); e != 0 || len(l) != 2 {
		t.Errorf("Verify: %s, %d", told(l), e)
	}
	merkle.Clash(long[:len(p)], long[:len(p)])
	if !bytes.Equal(long, append(slices.Clone(p), "zzzz"...)) {
		t.Error("Verify or Clash changed a proof")
	}
	same("key 1")
}

// spoil changes all bytes of a slice and of its spare capacity.
func spoil(b []byte) {
	b = b[:cap(b)]
	for i := range b {
		b[i] ^= 0x55
	}
}

// R3: what is returned is new memory: to change it, and what is behind its end, changes nothing else.
func TestResultsAreNew(t *testing.T) {
	l := numbered("", "a", "b", "ba", "c")
	x := build(t, l)
	check := func(what string, got []merkle.Entry) {
		t.Helper()
		for i := range got {
			spoil(got[i].Key)
			for j := i + 1; j < len(got); j++ {
				if string(got[j].Key) != string(l[j].Key) {
					t.Errorf("%s: key %d became %q", what, j, got[j].Key)
				}
			}
		}
		wantTree(t, x, l)
	}
	check("All", x.All())
	p := x.Prove(nil, nil, false)
	kept := slices.Clone(p)
	got, _ := merkle.Verify(x.Root(), nil, nil, false, p)
	check("Verify", got)
	if !bytes.Equal(p, kept) {
		t.Error("the keys of Verify are the proof's memory")
	}
	spoil(p)
	if !bytes.Equal(x.Prove(nil, nil, false), kept) {
		t.Error("a proof is the tree's memory")
	}
	wantTree(t, x, l)
}

// The chapter's first paragraph: the package imports api and sha, and nothing else of the project.
func TestImports(t *testing.T) {
	files, err := filepath.Glob("*.go")
	if err != nil || len(files) == 0 {
		t.Fatal(files, err)
	}
	for _, name := range files {
		if strings.HasSuffix(name, "_test.go") {
			continue
		}
		f, err := parser.ParseFile(token.NewFileSet(), name, nil, parser.ImportsOnly)
		if err != nil {
			t.Fatal(err)
		}
		for _, i := range f.Imports {
			switch path := strings.Trim(i.Path.Value, `"`); path {
			case "touchmark/api", "touchmark/sha", "bytes":
			default:
				t.Errorf("%s imports %s", name, path)
			}
		}
	}
}
