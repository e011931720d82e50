package sha_test

import (
	"bytes"
	"crypto/sha256"
	"encoding/binary"
	"slices"
	"strconv"
	"strings"
	"testing"

	"touchmark/sha"
)

// number is n as 8 bytes, most significant byte first.
func number(n uint64) string {
	return string(binary.BigEndian.AppendUint64(nil, n))
}

// parts makes a list of parts of texts.
func parts(texts ...string) [][]byte {
	var l [][]byte
	for _, s := range texts {
		l = append(l, []byte(s))
	}
	return l
}

func sameParts(a, b [][]byte) bool {
	return slices.EqualFunc(a, b, bytes.Equal)
}

// lists are lists of parts, and what their joined form is.
func lists() []struct {
	parts  [][]byte
	joined string
} {
	long := strings.Repeat("xyz", 100)
	return []struct {
		parts  [][]byte
		joined string
	}{
		{nil, number(0)},
		{parts(""), number(1) + number(0)},
		{parts("", "", ""), number(3) + number(0) + number(0) + number(0)},
		{parts("a", ""), number(2) + number(1) + "a" + number(0)},
		{parts("", "a"), number(2) + number(0) + number(1) + "a"},
		{parts("ab", "c"), number(2) + number(2) + "ab" + number(1) + "c"},
		{parts("a", "bc"), number(2) + number(1) + "a" + number(2) + "bc"},
		{parts("\x00\xff", number(0)), number(2) + number(2) + "\x00\xff" + number(8) + number(0)},
		{parts(long, "q"), number(2) + number(300) + long + number(1) + "q"},
		{parts(number(1) + number(1) + "a"), number(1) + number(17) + number(1) + number(1) + "a"},
	}
}

// P1.2: the joined form, and its parts.
func TestJoinAndSplit(t *testing.T) {
	for _, c := range lists() {
		if b := sha.Join(c.parts...); string(b) != c.joined {
			t.Errorf("Join %q: %q, want %q", c.parts, b, c.joined)
		}
		if l, ok := sha.Split([]byte(c.joined)); !ok || !sameParts(l, c.parts) {
			t.Errorf("Split %q: %q, %v, want %q", c.joined, l, ok, c.parts)
		}
	}
	if b := sha.Join([]byte("a"), nil); string(b) != number(2)+number(1)+"a"+number(0) {
		t.Errorf("Join with a part nil: %q", b)
	}
}

// P1.2: more than 255 parts, and a part of more than 65535 bytes.
func TestJoinLarge(t *testing.T) {
	var l [][]byte
	want := number(1000)
	for i := range 1000 {
		l = append(l, []byte(strconv.Itoa(i)))
		want += number(uint64(len(l[i]))) + string(l[i])
	}
	if b := sha.Join(l...); string(b) != want {
		t.Error("1000 parts: another joined form")
	}
	if got, ok := sha.Split([]byte(want)); !ok || !sameParts(got, l) {
		t.Error("1000 parts: not split again")
	}
	long := pattern(70000)
	if b := sha.Join(long); string(b) != number(1)+number(70000)+string(long) {
		t.Error("70000 bytes: another joined form")
	}
}

// refused are bytes that are no joined form.
func refused() []string {
	const most = 1<<64 - 1
	return []string{
		"", "a", number(0)[1:], number(0) + "\x00", number(0) + number(0),
		number(1), number(1) + number(0)[1:], number(1) + number(1), number(1) + number(2) + "a",
		number(1) + number(0) + "a", number(1) + number(1) + "ab", number(1) + number(1) + "a" + number(0),
		number(2) + number(1) + "a", number(3) + number(0) + number(0),
		number(most), number(1 << 63), number(1 << 32), number(1 << 61),
		number(most) + number(0), number(most) + strings.Repeat(number(0), 50),
		number(1) + number(most), number(1) + number(1<<63), number(1) + number(1<<63-1), number(1) + number(1<<32),
		number(1) + number(most) + "a", number(1) + number(most-7) + "abcdefgh", number(1) + number(1<<32|1) + "a",
		number(2) + number(most-7) + number(0), number(2) + number(most) + number(0) + number(0),
		number(2) + number(1) + "a" + number(most), number(2) + number(0) + number(1),
		number(1<<61+1) + number(1) + "a", number(1<<32|1) + number(1) + "a",
		"\x01\x00\x00\x00\x00\x00\x00\x00" + number(0), number(1) + "\x01\x00\x00\x00\x00\x00\x00\x00a",
	}
}

// P1.2: what is no joined form is refused, and no parts are told beside the refusal.
func TestSplitRefuses(t *testing.T) {
	for _, s := range refused() {
		if l, ok := sha.Split([]byte(s)); ok || len(l) != 0 {
			t.Errorf("%q: %q, %v", s, l, ok)
		}
	}
	if l, ok := sha.Split(nil); ok || len(l) != 0 {
		t.Error("nil:", l, ok)
	}
}

// P1.2: every joined form that is cut, or followed by a byte, is refused.
func TestSplitCutOrLonger(t *testing.T) {
	for _, c := range lists() {
		for n := range len(c.joined) {
			// Spare capacity holds the rest: it must not be read.
			b := []byte(c.joined)[:n]
			if l, ok := sha.Split(b); ok || len(l) != 0 {
				t.Errorf("%q cut at %d: %q, %v", c.joined, n, l, ok)
			}
		}
		for _, more := range []string{"\x00", "a", number(0)} {
			if l, ok := sha.Split([]byte(c.joined + more)); ok || len(l) != 0 {
				t.Errorf("%q with %q behind: %q, %v", c.joined, more, l, ok)
			}
		}
	}
}

// P1.2: Of is Sum of the joined form.
func TestOf(t *testing.T) {
	wantDigest(t, "Of()", sha.Of(), "af5570f5 a1810b7a f78caf4b c70a660f 0df51e42 baf91d4d e5b2328d e0e83dfc")
	for _, c := range lists() {
		if d, want := sha.Of(c.parts...), sha256.Sum256([]byte(c.joined)); d != want {
			t.Errorf("Of %q: %x, want %x", c.parts, d, want)
		}
	}
	if sha.Of([]byte("ab"), []byte("c")) == sha.Of([]byte("a"), []byte("bc")) {
		t.Error("Of does not tell the parts apart")
	}
}

// P1.2: arguments stay as they are, and results share memory neither with them nor among each other.
func TestJoinAndSplitMemory(t *testing.T) {
	a, whole := roomy([]byte("abc"))
	before := bytes.Clone(whole)
	list := [][]byte{a, []byte("de"), nil, a}
	joined := sha.Join(list...)
	sha.Of(list...)
	if !bytes.Equal(whole, before) || len(list) != 4 || list[2] != nil {
		t.Error("Join changed its arguments")
	}
	clear(whole)
	want := number(4) + number(3) + "abc" + number(2) + "de" + number(0) + number(3) + "abc"
	if string(joined) != want {
		t.Errorf("the joined form follows its parts: %q", joined)
	}
	b, whole := roomy(joined)
	before = bytes.Clone(whole)
	l, ok := sha.Split(b)
	if !ok || !bytes.Equal(whole, before) {
		t.Fatal("Split changed its argument")
	}
	for i := range l {
		full := l[i][:cap(l[i])]
		for k := range full {
			full[k] = '!'
		}
		if !bytes.Equal(whole, before) {
			t.Errorf("part %d shares memory with the argument", i)
		}
		for k := i + 1; k < len(l); k++ {
			if bytes.Contains(l[k], []byte("!")) {
				t.Errorf("parts %d and %d share memory", i, k)
			}
		}
	}
	l, _ = sha.Split(b)
	clear(whole)
	if !sameParts(l, parts("abc", "de", "", "abc")) {
		t.Errorf("the parts follow the joined form: %q", l)
	}
}

// shortLists are all lists of at most three of the texts.
func shortLists(texts ...string) [][][]byte {
	all := [][][]byte{nil}
	for from := 0; ; {
		to := len(all)
		if len(all[to-1]) == 3 {
			return all
		}
		for _, l := range all[from:to] {
			for _, s := range texts {
				all = append(all, append(slices.Clone(l), []byte(s)))
			}
		}
		from = to
	}
}

// P1.4: Split inverts Join, and different lists have different joined forms and digests.
func TestSplitInvertsJoin(t *testing.T) {
	joined, digests := map[string]int{}, map[sha.Digest]int{}
	all := shortLists("", "\x00", "a", "b", "aa", "ab", "\x00\x00", number(0), number(1))
	if len(all) != 1+9+81+729 {
		t.Fatal(len(all))
	}
	for i, l := range all {
		b, d := sha.Join(l...), sha.Of(l...)
		if got, ok := sha.Split(b); !ok || !sameParts(got, l) {
			t.Errorf("%q: split to %q, %v", l, got, ok)
		}
		if k, ok := joined[string(b)]; ok {
			t.Errorf("%q and %q: the same joined form", l, all[k])
		}
		if k, ok := digests[d]; ok {
			t.Errorf("%q and %q: the same digest", l, all[k])
		}
		joined[string(b)], digests[d] = i, i
	}
}

// P1.4: bytes that are split are the joined form of their parts: nothing else is taken for one.
func TestJoinInvertsSplit(t *testing.T) {
	taken := 0
	for _, c := range lists()[:8] {
		for i := range c.joined {
			for x := range 256 {
				b := []byte(c.joined)
				b[i] = byte(x)
				l, ok := sha.Split(b)
				if ok {
					taken++
				}
				if ok && !bytes.Equal(sha.Join(l...), b) {
					t.Errorf("%q is taken for the joined form of %q", b, l)
				}
				if !ok && len(l) != 0 {
					t.Errorf("%q: refused, but with parts", b)
				}
			}
		}
	}
	if taken == 0 {
		t.Error("nothing was split")
	}
}

func FuzzSplit(f *testing.F) {
	for _, c := range lists() {
		f.Add([]byte(c.joined))
	}
	for _, s := range refused() {
		f.Add([]byte(s))
	}
	f.Fuzz(func(t *testing.T, b []byte) {
		l, ok := sha.Split(b)
		if ok && !bytes.Equal(sha.Join(l...), b) || !ok && len(l) != 0 {
			t.Errorf("%q: %q, %v", b, l, ok)
		}
	})
}
