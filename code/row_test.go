package code_test

import (
	"bytes"
	"math/rand"
	"slices"
	"strings"
	"testing"

	"touchmark/api"
	"touchmark/code"
)

func wantRow(t *testing.T, b string, want api.Row) {
	t.Helper()
	if r, e, at := code.Row([]byte(b)); e != api.OK || at != 0 || !slices.Equal(r, want) {
		t.Errorf("Row %q: %v, %d, %d, want %v", b, r, e, at, want)
	}
}

// refuseRow wants an error and its offset, and no row beside them.
func refuseRow(t *testing.T, b string, want api.Errno, wantAt int) {
	t.Helper()
	// Spare capacity holds bytes that would go on with anything: they must not be read.
	in, whole := roomy([]byte(b))
	copy(whole[len(b):], "\x00\x01\x01\x01\x01\x01\x01\x01\x01\x01")
	if r, e, at := code.Row(in); e != want || at != wantAt || len(r) != 0 {
		t.Errorf("Row %q: %v, %d, %d, want %d at %d and no row", b, r, e, at, want, wantAt)
	}
}

type refused struct {
	b string
	e api.Errno
}

// refusedValues are bytes whose first value is an erroneous one.
func refusedValues() []refused {
	a64, z64 := strings.Repeat("a", 64), strings.Repeat("\x00\xff", 64)
	return []refused{
		{"\x00", api.ErrForm}, {"\x05", api.ErrForm}, {"\xff", api.ErrForm}, {"\x00\x01", api.ErrForm}, {"\x05\x01", api.ErrForm}, {"a", api.ErrForm},
		{"\x02", api.ErrShort}, {"\x02\x00", api.ErrShort}, {"\x02\x80\x00\x00\x00\x00\x00\x00", api.ErrShort}, {"\x02\x01\x01\x01\x01\x01\x01\x01", api.ErrShort},
		{"\x03", api.ErrShort}, {"\x03a", api.ErrShort}, {"\x03\xff", api.ErrShort}, {"\x03\x01", api.ErrShort}, {"\x03\x00", api.ErrShort}, {"\x03a\x00", api.ErrShort}, {"\x03\x00\xff", api.ErrShort}, {"\x03\x00\xff\x00", api.ErrShort},
		{"\x03\x00\x00", api.ErrForm}, {"\x03\x00\x02", api.ErrForm}, {"\x03\x00\xfe", api.ErrForm}, {"\x03a\x00\x00\x01", api.ErrForm}, {"\x03ab\x00c", api.ErrForm}, {"\x03\x00\xff\x00\x00", api.ErrForm}, {"\x03\x00\x02\x00\x01", api.ErrForm},
		{"\x03" + a64, api.ErrShort}, {"\x03" + a64 + "\x00", api.ErrShort}, {"\x03" + z64, api.ErrShort}, {"\x03" + z64 + "\x00", api.ErrShort},
		{"\x03" + a64 + "a", api.ErrForm}, {"\x03" + a64 + "\x01", api.ErrForm}, {"\x03" + a64 + "\xff", api.ErrForm}, {"\x03" + a64 + "\x00\xff", api.ErrForm}, {"\x03" + a64 + "\x00\x02", api.ErrForm}, {"\x03" + a64 + "\x00\x00", api.ErrForm},
		{"\x03" + a64 + "a\x00\x01", api.ErrForm}, {"\x03" + a64 + "\x00\xff\x00\x01", api.ErrForm}, {"\x03" + a64 + a64 + a64, api.ErrForm},
		{"\x03" + z64 + "a", api.ErrForm}, {"\x03" + z64 + "\x00\xff", api.ErrForm}, {"\x03" + z64 + "\x00\x02", api.ErrForm}, {"\x03" + z64 + "a\x00\x01", api.ErrForm}, {"\x03" + z64 + "\x00\xff\x00\x01", api.ErrForm},
		{"\x04", api.ErrShort}, {"\x04\x02", api.ErrForm}, {"\x04\xff", api.ErrForm}, {"\x04\x80", api.ErrForm}, {"\x04\x02\x01", api.ErrForm},
	}
}

// P3.2: a row is decoded from its key.
func TestRow(t *testing.T) {
	wantRow(t, "", nil)
	if r, e, at := code.Row(nil); len(r) != 0 || e != api.OK || at != 0 {
		t.Error("Row of nil:", r, e, at)
	}
	all := keyedValues()
	var row api.Row
	key := ""
	for _, c := range all {
		wantRow(t, c.key, api.Row{c.v})
		row, key = append(row, c.v), key+c.key
		wantRow(t, key, row)
		for _, d := range all {
			wantRow(t, c.key+d.key, api.Row{c.v, d.v})
			wantRow(t, d.key+c.key+d.key, api.Row{d.v, c.v, d.v})
		}
	}
	wantRow(t, strings.Repeat(key, 50), slices.Repeat(row, 50))
	wantRow(t, strings.Repeat("\x01", 5000), slices.Repeat(api.Row{null}, 5000))
}

// P3.2: each error, and its offset behind values that are right.
func TestRowRefuses(t *testing.T) {
	for _, c := range refusedValues() {
		refuseRow(t, c.b, c.e, 0)
		key := ""
		for _, ahead := range keyedValues() {
			refuseRow(t, ahead.key+c.b, c.e, len(ahead.key))
			key += ahead.key
			refuseRow(t, key+c.b, c.e, len(key))
		}
	}
}

// P3.2: the first error counts, whatever comes behind it.
func TestRowFirstError(t *testing.T) {
	for _, c := range refusedValues() {
		if c.e != api.ErrForm {
			continue
		}
		for _, d := range refusedValues() {
			refuseRow(t, c.b+d.b, api.ErrForm, 0)
			refuseRow(t, "\x04\x01"+c.b+"\x01"+d.b, api.ErrForm, 2)
		}
	}
}

// P3.2: every first byte.
func TestRowFirstByte(t *testing.T) {
	for x := range 256 {
		b := string([]byte{byte(x)})
		switch {
		case x == 1:
			wantRow(t, b, api.Row{null})
			wantRow(t, "\x04\x00"+b, api.Row{boolean(0), null})
		case 2 <= x && x <= 4:
			refuseRow(t, b, api.ErrShort, 0)
			refuseRow(t, "\x04\x00"+b, api.ErrShort, 2)
		default:
			refuseRow(t, b, api.ErrForm, 0)
			refuseRow(t, b+"\x00\x01", api.ErrForm, 0)
			refuseRow(t, "\x04\x00"+b, api.ErrForm, 2)
		}
	}
}

// P3.2: every byte behind that of a Bool, and behind a byte 0 of a Text.
func TestRowSecondByte(t *testing.T) {
	for x := range 256 {
		b := string([]byte{byte(x)})
		if x <= 1 {
			wantRow(t, "\x04"+b, api.Row{boolean(int64(x))})
		} else {
			refuseRow(t, "\x01\x04"+b, api.ErrForm, 1)
		}
		in := "\x01\x03q\x00" + b + "\x00\x01"
		switch x {
		case 1:
			refuseRow(t, in, api.ErrForm, 5) // the text has ended, and a 0 follows
			wantRow(t, in[:5], api.Row{null, text("q")})
		case 255:
			wantRow(t, in, api.Row{null, text("q\x00")})
		default:
			refuseRow(t, in, api.ErrForm, 1)
		}
	}
}

// P3.2: a key that is cut inside a value is too short there; cut between two values it is the key of those ahead.
func TestRowCut(t *testing.T) {
	var row api.Row
	key := ""
	for _, c := range keyedValues() {
		for n := 1; n < len(c.key); n++ {
			refuseRow(t, key+c.key[:n], api.ErrShort, len(key))
		}
		row, key = append(row, c.v), key+c.key
		wantRow(t, key, row)
	}
}

// P3.2: texts of every length, short or not, and where they become too long.
func TestRowTextLengths(t *testing.T) {
	for n := range 200 {
		for _, c := range []struct{ part, key string }{{"a", "a"}, {"\x00", "\x00\xff"}, {"\xff", "\xff"}} {
			b := "\x03" + strings.Repeat(c.key, n)
			if n <= 64 {
				refuseRow(t, b, api.ErrShort, 0)
				refuseRow(t, b+"\x00", api.ErrShort, 0)
				wantRow(t, b+"\x00\x01", api.Row{text(strings.Repeat(c.part, n))})
			} else {
				refuseRow(t, b, api.ErrForm, 0)
				refuseRow(t, b+"\x00", api.ErrForm, 0)
				refuseRow(t, b+"\x00\x01", api.ErrForm, 0)
			}
		}
	}
}

// P3.2 and R3: the bytes stay as they are, and the row does not follow them or another row.
func TestRowMemory(t *testing.T) {
	key := "\x03abc\x00\xffd\x00\x01\x02" + eight(1<<63+5) + "\x03\x00\x01\x03z\x00\x01"
	want := api.Row{text("abc\x00d"), number(5), text(""), text("z")}
	b, whole := roomy([]byte(key))
	before := bytes.Clone(whole)
	r, _, _ := code.Row(b)
	q, _, _ := code.Row(b)
	if !bytes.Equal(whole, before) {
		t.Fatal("Row changed its argument, or what is behind it")
	}
	clear(whole)
	if !slices.Equal(r, want) {
		t.Errorf("the row follows the bytes: %v", r)
	}
	clear(r[:cap(r)])
	if !slices.Equal(q, want) {
		t.Errorf("the row follows another one: %v", q)
	}
}

// modelText is the text that s begins with the coded form of, and what is left of s, by the chapter's words.
func modelText(s string) (text, rest string, e api.Errno) {
	for {
		switch {
		case strings.HasPrefix(s, "\x00\x01"):
			return text, s[2:], api.OK
		case s == "" || s == "\x00":
			return "", "", api.ErrShort
		case strings.HasPrefix(s, "\x00\xff"):
			text, s = text+"\x00", s[2:]
		case s[0] == 0:
			return "", "", api.ErrForm
		default:
			text, s = text+s[:1], s[1:]
		}
		if len(text) == 65 {
			return "", "", api.ErrForm
		}
	}
}

// modelValue is the first value of s, and what is left of s, by the chapter's words.
func modelValue(s string) (v api.Value, rest string, e api.Errno) {
	switch {
	case s[0] < 1 || s[0] > 4:
		return v, "", api.ErrForm
	case s[0] == 1:
		return null, s[1:], api.OK
	case s[0] == 3:
		in, rest, e := modelText(s[1:])
		return text(in), rest, e
	case s[0] == 2 && len(s) < 9 || len(s) < 2:
		return v, "", api.ErrShort
	case s[0] == 2:
		var n int64
		for i := 1; i < 9; i++ {
			n = n*256 + int64(s[i])
		}
		return number(n - 1<<62 - 1<<62), s[9:], api.OK
	case s[1] > 1:
		return v, "", api.ErrForm
	}
	return boolean(int64(s[1])), s[2:], api.OK
}

func modelRow(s string) (api.Row, api.Errno, int) {
	var row api.Row
	for rest := s; rest != ""; {
		at := len(s) - len(rest)
		v, behind, e := modelValue(rest)
		if e != api.OK {
			return nil, e, at
		}
		row, rest = append(row, v), behind
	}
	return row, api.OK, 0
}

// holdRow holds Row against the model; bytes that are taken for a key must be the key of what they are taken for.
func holdRow(t *testing.T, b []byte) api.Errno {
	t.Helper()
	r, e, at := code.Row(b)
	wantR, wantE, wantAt := modelRow(string(b))
	if e != wantE || at != wantAt || !slices.Equal(r, wantR) {
		t.Errorf("Row %q: %v, %d, %d, want %v, %d, %d", b, r, e, at, wantR, wantE, wantAt)
	}
	if e == api.OK {
		if key, ok := code.Key(r...); !ok || !bytes.Equal(key, b) {
			t.Errorf("%q is taken for the key of %v", b, r)
		}
	}
	return e
}

// P3.2 and P3.4: all byte strings of up to 5 bytes that count, and keys with one byte set to each value.
func TestRowAgainstModel(t *testing.T) {
	const some = "\x00\x01\x02\x03\x04\x05a\xff"
	told := map[api.Errno]int{}
	all := []string{""}
	for i := 0; i < len(all); i++ {
		told[holdRow(t, []byte(all[i]))]++
		for k := 0; k < len(some) && len(all[i]) < 5; k++ {
			all = append(all, all[i]+some[k:k+1])
		}
	}
	for _, c := range keyedValues() {
		for i := range c.key {
			for x := range 256 {
				b := []byte("\x04\x01" + c.key + "\x01")
				b[2+i] = byte(x)
				told[holdRow(t, b)]++
			}
		}
	}
	if told[api.OK] == 0 || told[api.ErrForm] == 0 || told[api.ErrShort] == 0 {
		t.Error("not every outcome was seen:", told)
	}
}

// P3.2 and P3.4: bytes by chance, most of which go on for long.
func TestRowByChance(t *testing.T) {
	pieces := []string{"\x00", "\x00\x01", "\x00\xff", "\x03", "a", "\xff", "\x04\x01", "\x04", "\x05", "\x02" + eight(3), "\x02", strings.Repeat("b", 62), strings.Repeat("\x00\xff", 61), "\x03c\x00\x01", "\x01"}
	r := rand.New(rand.NewSource(3))
	for range 30000 {
		var b []byte
		for range r.Intn(12) {
			b = append(b, pieces[r.Intn(len(pieces))]...)
		}
		holdRow(t, b)
		holdRow(t, append([]byte{3}, b...))
	}
}

func FuzzRow(f *testing.F) {
	for _, c := range refusedValues() {
		f.Add([]byte(c.b))
	}
	for _, c := range keyedValues() {
		f.Add([]byte(c.key))
	}
	f.Fuzz(func(t *testing.T, b []byte) { holdRow(t, b) })
}
