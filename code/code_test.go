package code_test

import (
	"bytes"
	"encoding/binary"
	"go/parser"
	"go/token"
	"math"
	"path/filepath"
	"slices"
	"strings"
	"testing"

	"touchmark/api"
	"touchmark/code"
)

var null = api.Value{}

func number(n int64) api.Value { return api.Value{Kind: api.Int, N: n} }

func text(s string) api.Value { return api.Value{Kind: api.Text, S: s} }

func boolean(n int64) api.Value { return api.Value{Kind: api.Bool, N: n} }

// eight is n as 8 bytes, most significant byte first.
func eight(n uint64) string {
	return string(binary.BigEndian.AppendUint64(nil, n))
}

// roomy is b with spare capacity that is filled, so that a write behind b can be seen.
func roomy(b []byte) (roomy, whole []byte) {
	whole = append(bytes.Clone(b), bytes.Repeat([]byte{0xee}, 200)...)
	return whole[:len(b)], whole
}

// spoil overwrites a slice and its spare capacity.
func spoil(b []byte) {
	b = b[:cap(b)]
	for i := range b {
		b[i] ^= 0x55
	}
}

type keyed struct {
	v   api.Value
	key string
}

// keyedValues are values in ascending order, and their keys.
func keyedValues() []keyed {
	return []keyed{
		{null, "\x01"},
		{number(math.MinInt64), "\x02\x00\x00\x00\x00\x00\x00\x00\x00"},
		{number(math.MinInt64 + 1), "\x02\x00\x00\x00\x00\x00\x00\x00\x01"},
		{number(-1 << 32), "\x02\x7f\xff\xff\xff\x00\x00\x00\x00"},
		{number(-257), "\x02\x7f\xff\xff\xff\xff\xff\xfe\xff"},
		{number(-256), "\x02\x7f\xff\xff\xff\xff\xff\xff\x00"},
		{number(-2), "\x02\x7f\xff\xff\xff\xff\xff\xff\xfe"},
		{number(-1), "\x02\x7f\xff\xff\xff\xff\xff\xff\xff"},
		{number(0), "\x02\x80\x00\x00\x00\x00\x00\x00\x00"},
		{number(1), "\x02\x80\x00\x00\x00\x00\x00\x00\x01"},
		{number(255), "\x02\x80\x00\x00\x00\x00\x00\x00\xff"},
		{number(256), "\x02\x80\x00\x00\x00\x00\x00\x01\x00"},
		{number(0x0102030405060708), "\x02\x81\x02\x03\x04\x05\x06\x07\x08"},
		{number(math.MaxInt64 - 1), "\x02\xff\xff\xff\xff\xff\xff\xff\xfe"},
		{number(math.MaxInt64), "\x02\xff\xff\xff\xff\xff\xff\xff\xff"},
		{text(""), "\x03\x00\x01"},
		{text("\x00"), "\x03\x00\xff\x00\x01"},
		{text("\x00\x00"), "\x03\x00\xff\x00\xff\x00\x01"},
		{text(strings.Repeat("\x00", 64)), "\x03" + strings.Repeat("\x00\xff", 64) + "\x00\x01"},
		{text("\x00\x01"), "\x03\x00\xff\x01\x00\x01"},
		{text("\x00\xff"), "\x03\x00\xff\xff\x00\x01"},
		{text("\x01"), "\x03\x01\x00\x01"},
		{text("\x01\x01"), "\x03\x01\x01\x00\x01"},
		{text("\x02"), "\x03\x02\x00\x01"},
		{text("a"), "\x03a\x00\x01"},
		{text("a\x00"), "\x03a\x00\xff\x00\x01"},
		{text("a\x00b"), "\x03a\x00\xffb\x00\x01"},
		{text("a\x01"), "\x03a\x01\x00\x01"},
		{text(strings.Repeat("a", 63)), "\x03" + strings.Repeat("a", 63) + "\x00\x01"},
		{text(strings.Repeat("a", 64)), "\x03" + strings.Repeat("a", 64) + "\x00\x01"},
		{text("ab"), "\x03ab\x00\x01"},
		{text("b"), "\x03b\x00\x01"},
		{text("\x80é\xff"), "\x03\x80\xc3\xa9\xff\x00\x01"},
		{text("\xff"), "\x03\xff\x00\x01"},
		{text("\xff\x00"), "\x03\xff\x00\xff\x00\x01"},
		{text("\xff\x00\xff"), "\x03\xff\x00\xff\xff\x00\x01"},
		{text("\xff\xff"), "\x03\xff\xff\x00\x01"},
		{text(strings.Repeat("\xff", 64)), "\x03" + strings.Repeat("\xff", 64) + "\x00\x01"},
		{boolean(0), "\x04\x00"},
		{boolean(1), "\x04\x01"},
	}
}

// notValid are values that are not valid, in each of the ways in which they can't be.
func notValid() []api.Value {
	long := strings.Repeat("a", 65)
	return []api.Value{
		{Kind: api.Null, N: 1}, {Kind: api.Null, N: -1}, {Kind: api.Null, N: math.MinInt64}, {Kind: api.Null, S: "a"}, {Kind: api.Null, S: "\x00"}, {Kind: api.Null, N: 1, S: "a"},
		{Kind: api.Int, S: "a"}, {Kind: api.Int, N: 5, S: "\x00"}, {Kind: api.Int, S: long},
		{Kind: api.Text, N: 1}, {Kind: api.Text, N: -1}, {Kind: api.Text, N: 1, S: "a"}, {Kind: api.Text, N: 1 << 32, S: "a"},
		text(long), text(strings.Repeat("\x00", 65)), text(strings.Repeat("\xff", 65)), text(strings.Repeat("a", 66)), text(strings.Repeat("a", 320)), text(strings.Repeat("é", 33)),
		boolean(2), boolean(-1), boolean(256), boolean(257), boolean(1 << 32), boolean(math.MinInt64), boolean(math.MaxInt64),
		{Kind: api.Bool, S: "a"}, {Kind: api.Bool, N: 1, S: "\x00"},
		{Kind: 4}, {Kind: 4, N: 1}, {Kind: 5}, {Kind: -1}, {Kind: -1, N: 1, S: "a"}, {Kind: 255}, {Kind: 256}, {Kind: 257}, {Kind: 258}, {Kind: 259},
		{Kind: -255}, {Kind: -256}, {Kind: math.MinInt}, {Kind: math.MaxInt},
	}
}

func wantKey(t *testing.T, r api.Row, want string) {
	t.Helper()
	if b, ok := code.Key(r...); !ok || string(b) != want {
		t.Errorf("Key %v: %q, %v, want %q", r, b, ok, want)
	}
}

func refuseKey(t *testing.T, r api.Row) {
	t.Helper()
	if b, ok := code.Key(r...); ok || len(b) != 0 {
		t.Errorf("Key %v: %q, %v", r, b, ok)
	}
}

// P3.1: a value's key, by Value and by Key.
func TestValue(t *testing.T) {
	for _, c := range keyedValues() {
		if b, ok := code.Value(c.v); !ok || string(b) != c.key {
			t.Errorf("Value %v: %q, %v, want %q", c.v, b, ok, c.key)
		}
		wantKey(t, api.Row{c.v}, c.key)
	}
}

// P3.1: each single byte in a text, in front of others and behind them.
func TestValueEachByte(t *testing.T) {
	for x := range 256 {
		c := string([]byte{byte(x)})
		in := c
		if x == 0 {
			in = "\x00\xff"
		}
		wantKey(t, api.Row{text(c + "q" + c)}, "\x03"+in+"q"+in+"\x00\x01")
	}
}

// P3.1: texts of every length that is valid, and of longer ones.
func TestValueEachLength(t *testing.T) {
	for n := range 200 {
		for _, c := range []struct{ part, key string }{{"a", "a"}, {"\x00", "\x00\xff"}, {"\xff", "\xff"}} {
			r := api.Row{text(strings.Repeat(c.part, n))}
			if n <= 64 {
				wantKey(t, r, "\x03"+strings.Repeat(c.key, n)+"\x00\x01")
			} else {
				refuseKey(t, r)
			}
		}
	}
}

// P3.1: the key of a row is its values' keys, one behind the other.
func TestKey(t *testing.T) {
	if b, ok := code.Key(); !ok || len(b) != 0 {
		t.Errorf("Key of no values: %q, %v", b, ok)
	}
	all := keyedValues()
	var row api.Row
	key := ""
	for i, c := range all {
		wantKey(t, append(slices.Clone(row), c.v), key+c.key)
		row, key = append(row, c.v), key+c.key
		for _, d := range all {
			wantKey(t, api.Row{c.v, d.v}, c.key+d.key)
			wantKey(t, api.Row{d.v, all[i].v, d.v}, d.key+c.key+d.key)
		}
	}
	wantKey(t, slices.Repeat(row, 50), strings.Repeat(key, 50))
}

// P3.1: what is not valid has no key, and neither has a row with it, wherever it stands.
func TestNotValid(t *testing.T) {
	for _, v := range notValid() {
		if b, ok := code.Value(v); ok || len(b) != 0 {
			t.Errorf("Value %v: %q, %v", v, b, ok)
		}
		refuseKey(t, api.Row{v})
		for n := range 9 {
			row := api.Row{null, number(7), text("a"), boolean(1), null, number(-7), text(""), boolean(0)}
			refuseKey(t, slices.Insert(row, n, v))
		}
		refuseKey(t, api.Row{v, v})
	}
}

// P3.1 and R3: the values stay as they are, spare capacity included, and each key is memory of its own.
func TestKeyMemory(t *testing.T) {
	whole := api.Row{number(1), text("a\x00"), boolean(1), number(99), text("spare")}
	before := slices.Clone(whole)
	a, _ := code.Key(whole[:3]...)
	b, _ := code.Key(whole[:3]...)
	want := "\x02" + eight(1<<63+1) + "\x03a\x00\xff\x00\x01\x04\x01"
	spoil(a)
	whole[0] = number(2)
	if string(b) != want {
		t.Errorf("a key follows another one, or the values: %q", b)
	}
	whole[0] = number(1)
	if !slices.Equal(whole, before) {
		t.Error("Key changed its argument, or what is behind it")
	}
	for _, c := range keyedValues() {
		a, _ := code.Value(c.v)
		spoil(a)
		if b, _ := code.Value(c.v); string(b) != c.key {
			t.Errorf("%v: the key follows an earlier one: %q", c.v, b)
		}
	}
}

// The chapter's first paragraph: the package imports api and sha, and nothing else.
func TestImportsApiAndSha(t *testing.T) {
	files, err := filepath.Glob("*.go")
	if err != nil || len(files) == 0 {
		t.Fatal(files, err)
	}
	for _, name := range files {
		if strings.HasSuffix(name, "_test.go") {
			continue
		}
		f, err := parser.ParseFile(token.NewFileSet(), name, nil, parser.ImportsOnly)
		if err != nil {
			t.Fatal(err)
		}
		for _, i := range f.Imports {
			if i.Path.Value != `"touchmark/api"` && i.Path.Value != `"touchmark/sha"` {
				t.Errorf("%s imports %s", name, i.Path.Value)
			}
		}
	}
}
