package code_test

import (
	"bytes"
	"crypto/sha256"
	"math"
	"strings"
	"testing"

	"touchmark/api"
	"touchmark/code"
)

// sealed is what Seal must return: the digest is that of the list of one part.
func sealed(b string) string {
	length := eight(uint64(len(b)))
	sum := sha256.Sum256([]byte(eight(1) + length + b))
	return length + b + string(sum[:])
}

// contents are bytes to be sealed, among them such as look like a seal.
func contents() []string {
	return []string{
		"", "\x00", "a", "ab", "\xff\x00", eight(0), eight(1), eight(32), eight(math.MaxUint64),
		strings.Repeat("x", 31), strings.Repeat("x", 32), strings.Repeat("x", 40), strings.Repeat("x", 255), strings.Repeat("x", 256), strings.Repeat("xyz", 30000),
		sealed(""), sealed("a"), sealed(sealed("ab")), sealed("a") + sealed("b"), strings.Repeat("\x00", 48),
	}
}

func wantOpen(t *testing.T, b, enclosed, rest string) {
	t.Helper()
	in, behind, e := code.Open([]byte(b))
	if e != api.OK || string(in) != enclosed || string(behind) != rest {
		t.Errorf("Open %q: %q, %q, %d, want %q, %q", b, in, behind, e, enclosed, rest)
	}
}

// refuseOpen wants an error, and no bytes beside it.
func refuseOpen(t *testing.T, b string, want api.Errno) {
	t.Helper()
	// Spare capacity holds bytes that must not be read.
	roomy, _ := roomy([]byte(b))
	if in, rest, e := code.Open(roomy); e != want || len(in) != 0 || len(rest) != 0 {
		t.Errorf("Open %q: %q, %q, %d, want %d and no bytes", b, in, rest, e, want)
	}
}

// P3.3: the length, the bytes and their checksum.
func TestSeal(t *testing.T) {
	for _, c := range contents() {
		if b := code.Seal([]byte(c)); string(b) != sealed(c) {
			t.Errorf("Seal %q: %q, want %q", c, b, sealed(c))
		}
	}
	if b := code.Seal(nil); string(b) != sealed("") {
		t.Errorf("Seal of nil: %q", b)
	}
	for n := range 600 {
		c := strings.Repeat("\xee", n)
		if b := code.Seal([]byte(c)); string(b) != sealed(c) {
			t.Errorf("Seal of %d bytes: %q", n, b)
		}
	}
}

// P3.3 and P3.4: what was sealed is opened, whatever follows it.
func TestOpen(t *testing.T) {
	for _, c := range contents() {
		for _, rest := range append(contents(), "c", "\x00\x00\x00", eight(5)[1:]) {
			wantOpen(t, sealed(c)+rest, c, rest)
		}
		b := append(code.Seal([]byte(c)), "more"...)
		wantOpen(t, string(b), c, "more")
	}
	for n := range 600 {
		c := strings.Repeat("\x01", n)
		wantOpen(t, sealed(c)+"q", c, "q")
	}
}

// P3.4: several seals, one behind the other, are opened one by one.
func TestOpenRow(t *testing.T) {
	var b []byte
	for _, c := range contents() {
		b = append(b, code.Seal([]byte(c))...)
	}
	for _, c := range contents() {
		in, rest, e := code.Open(b)
		if e != api.OK || string(in) != c {
			t.Fatalf("%q, %d, want %q", in, e, c)
		}
		b = rest
	}
	if len(b) != 0 {
		t.Errorf("%q is left", b)
	}
}

// P3.3: bytes that end too early, wherever they are cut.
func TestOpenCut(t *testing.T) {
	refuseOpen(t, "", api.ErrShort)
	if in, rest, e := code.Open(nil); len(in) != 0 || len(rest) != 0 || e != api.ErrShort {
		t.Error("Open of nil:", in, rest, e)
	}
	for _, c := range []string{"", "a", "ab", eight(0), sealed("a"), strings.Repeat("x", 256)} {
		b := sealed(c)
		for n := range len(b) {
			refuseOpen(t, b[:n], api.ErrShort)
		}
	}
	for n := range 40 {
		refuseOpen(t, strings.Repeat("\x00", n), api.ErrShort)
		refuseOpen(t, strings.Repeat("\xff", n), api.ErrShort)
	}
	refuseOpen(t, strings.Repeat("\x00", 40), api.ErrSum)
	refuseOpen(t, strings.Repeat("\xff", 40), api.ErrShort)
}

// P3.3: lengths that are larger than what is there, so large too that a sum with them begins again at 0.
func TestOpenLengths(t *testing.T) {
	for _, c := range []string{"", "a", "ab", strings.Repeat("x", 100)} {
		there := sealed(c)[8:]
		size := uint64(len(c))
		lengths := []uint64{
			size + 1, size + 2, size + 31, size + 32, size + 33, size + 40, size + 256, 1 << 16, 1<<31 - 1, 1 << 31, 1<<32 - 1, 1 << 32, 1<<32 + size,
			1 << 62, 1<<63 - 41, 1<<63 - 40, 1<<63 - 32, 1<<63 - 8, 1<<63 - 1, 1 << 63, 1<<63 + size,
		}
		for n := range uint64(100) {
			lengths = append(lengths, math.MaxUint64-n)
		}
		for _, n := range lengths {
			refuseOpen(t, eight(n)+there, api.ErrShort)
			refuseOpen(t, eight(n), api.ErrShort)
		}
		for n := range size {
			refuseOpen(t, eight(n)+there, api.ErrSum)
		}
		refuseOpen(t, eight(size+1)+there+"q", api.ErrSum)
		refuseOpen(t, eight(size+1)+there, api.ErrShort)
	}
}

// P3.3: each bit of the enclosed bytes and of the checksum counts; those behind it don't.
func TestOpenChanged(t *testing.T) {
	for _, c := range []string{"", "a", "ab", strings.Repeat("xyz", 30)} {
		for _, rest := range []string{"", "c", sealed("d")} {
			b := sealed(c) + rest
			end := len(b) - len(rest)
			for bit := 64; bit < 8*len(b); bit++ {
				changed := []byte(b)
				changed[bit/8] ^= 1 << (bit % 8)
				if bit/8 < end {
					refuseOpen(t, string(changed), api.ErrSum)
				} else {
					wantOpen(t, string(changed), c, string(changed[end:]))
				}
			}
		}
	}
}

// P3.3: the checksum is that of the list of one part, not that of the bytes alone.
func TestOpenOtherSums(t *testing.T) {
	alone, other := sha256.Sum256([]byte("ab")), sha256.Sum256([]byte(eight(2)+"ab"))
	refuseOpen(t, eight(2)+"ab"+string(alone[:]), api.ErrSum)
	refuseOpen(t, eight(2)+"ab"+string(other[:]), api.ErrSum)
	refuseOpen(t, eight(2)+"ab"+sealed("ac")[10:], api.ErrSum)
	refuseOpen(t, eight(2)+"ab"+strings.Repeat("\x00", 32), api.ErrSum)
}

// P3.3 and R3: arguments stay as they are, and no result shares memory with them or with another result.
func TestSealMemory(t *testing.T) {
	b, whole := roomy([]byte("abc"))
	before := bytes.Clone(whole)
	s, other := code.Seal(b), code.Seal(b)
	if !bytes.Equal(whole, before) {
		t.Error("Seal changed its argument, or what is behind it")
	}
	clear(whole)
	spoil(other)
	if string(s) != sealed("abc") {
		t.Errorf("the seal follows its argument or another one: %q", s)
	}
}

func TestOpenMemory(t *testing.T) {
	for _, c := range []struct{ in, rest string }{{"abc", "de"}, {"", "de"}, {"abc", ""}} {
		b, whole := roomy([]byte(sealed(c.in) + c.rest))
		before := bytes.Clone(whole)
		in, rest, _ := code.Open(b)
		spoil(in)
		if string(rest) != c.rest || !bytes.Equal(whole, before) {
			t.Errorf("%q: the enclosed bytes share memory", c)
		}
		in, rest, _ = code.Open(b)
		spoil(rest)
		if string(in) != c.in || !bytes.Equal(whole, before) {
			t.Errorf("%q: the bytes behind share memory", c)
		}
		in, rest, _ = code.Open(b)
		clear(whole)
		if string(in) != c.in || string(rest) != c.rest {
			t.Errorf("%q: the results follow the argument", c)
		}
	}
}

// P3.3 and P3.4: what is opened is what was sealed, and nothing else is.
func FuzzOpen(f *testing.F) {
	for _, c := range contents() {
		f.Add([]byte(sealed(c)+"q"), c)
	}
	f.Fuzz(func(t *testing.T, b []byte, c string) {
		in, rest, e := code.Open(b)
		if e == api.OK && sealed(string(in))+string(rest) != string(b) || e != api.OK && len(in)+len(rest) != 0 {
			t.Errorf("Open %q: %q, %q, %d", b, in, rest, e)
		}
		wantOpen(t, sealed(c)+string(b), c, string(b))
	})
}
