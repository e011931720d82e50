package sha_test

import (
	"bytes"
	"crypto/sha256"
	"encoding/hex"
	"go/parser"
	"go/token"
	"path/filepath"
	"strings"
	"testing"

	"touchmark/sha"
)

// pattern makes n bytes that differ from block to block.
func pattern(n int) []byte {
	b := make([]byte, n)
	for i := range b {
		b[i] = byte(i*7 + i>>8*13 + 1)
	}
	return b
}

// roomy is b with spare capacity that is filled, so that a write behind b can be seen.
func roomy(b []byte) (roomy, whole []byte) {
	whole = append(bytes.Clone(b), bytes.Repeat([]byte{0xee}, 200)...)
	return whole[:len(b)], whole
}

// wantDigest holds a digest against hexadecimal digits.
func wantDigest(t *testing.T, what string, got sha.Digest, want string) {
	t.Helper()
	want = strings.ReplaceAll(want, " ", "")
	if hex.EncodeToString(got[:]) != want {
		t.Errorf("%s: %x, want %s", what, got, want)
	}
}

// P1.1: digests that are published.
func TestSumPublished(t *testing.T) {
	for _, c := range []struct{ text, want string }{
		{"", "e3b0c442 98fc1c14 9afbf4c8 996fb924 27ae41e4 649b934c a495991b 7852b855"},
		{"abc", "ba7816bf 8f01cfea 414140de 5dae2223 b00361a3 96177a9c b410ff61 f20015ad"},
		{"abcdbcdecdefdefgefghfghighijhijkijkljklmklmnlmnomnopnopq", "248d6a61 d20638b8 e5c02693 0c3e6039 a33ce459 64ff2167 f6ecedd4 19db06c1"},
		{"abcdefghbcdefghicdefghijdefghijkefghijklfghijklmghijklmnhijklmnoijklmnopjklmnopqklmnopqrlmnopqrsmnopqrstnopqrstu", "cf5b16a7 78af8380 036ce59e 7b049237 0b249b11 e8f07a51 afac4503 7afee9d1"},
		{"\xbd", "68325720 aabd7c82 f30f554b 313d0570 c95accbb 7dc4b5aa e11204c0 8ffe732b"},
		{strings.Repeat("a", 1000000), "cdc76e5c 9914fb92 81a1c7e2 84d73e67 f1809a48 a497200e 046d39cc c7112cd0"},
	} {
		wantDigest(t, c.text[:min(len(c.text), 20)], sha.Sum([]byte(c.text)), c.want)
	}
	if sha.Sum(nil) != sha.Sum([]byte{}) {
		t.Error("nil and no bytes have different digests")
	}
}

// P1.1: all lengths up to several blocks, those around 55, 56, 63, 64 and 119 among them.
func TestSumAllLengths(t *testing.T) {
	for n := range 700 {
		for _, b := range [][]byte{pattern(n), make([]byte, n), bytes.Repeat([]byte{0xff}, n)} {
			if got, want := sha.Sum(b), sha256.Sum256(b); got != want {
				t.Errorf("%d bytes: %x, want %x", n, got, want)
			}
		}
	}
}

// P1.1: lengths in bits that need a second, third and fourth byte.
func TestSumLongLengths(t *testing.T) {
	for _, n := range []int{8191, 8192, 65536, 2097151, 2097152, 2097153} {
		b := pattern(n)
		if got, want := sha.Sum(b), sha256.Sum256(b); got != want {
			t.Errorf("%d bytes: %x, want %x", n, got, want)
		}
	}
}

// P1.1: each bit of the input counts.
func TestSumEachBit(t *testing.T) {
	b := pattern(130)
	seen := map[sha.Digest]int{sha.Sum(b): -1}
	for bit := range len(b) * 8 {
		b[bit/8] ^= 1 << (bit % 8)
		d := sha.Sum(b)
		if other, ok := seen[d]; ok {
			t.Errorf("bits %d and %d flipped: the same digest", other, bit)
		}
		if d != sha256.Sum256(b) {
			t.Errorf("bit %d flipped: %x", bit, d)
		}
		seen[d] = bit
		b[bit/8] ^= 1 << (bit % 8)
	}
}

// P1.1 and P1.3: the bytes given, and those behind them, stay as they are.
func TestArgumentsStay(t *testing.T) {
	for n := range 200 {
		b, whole := roomy(pattern(n))
		before := bytes.Clone(whole)
		sha.Sum(b)
		h := sha.New()
		h.Write(b)
		h.Sum()
		if !bytes.Equal(whole, before) {
			t.Fatalf("%d bytes: the argument or what is behind it was changed", n)
		}
	}
}

// P1.3: a new hash has taken nothing, and is nobody else's.
func TestNewHash(t *testing.T) {
	g, h := sha.New(), sha.New()
	g.Write([]byte("abc"))
	if h.Sum() != sha.Sum(nil) {
		t.Error("a new hash has taken something")
	}
	h.Write([]byte("de"))
	g.Write([]byte("f"))
	if g.Sum() != sha.Sum([]byte("abcf")) || h.Sum() != sha.Sum([]byte("de")) {
		t.Error("two hashes share what was written")
	}
}

// P1.3: the order of writes counts, and empty ones add nothing.
func TestWriteInOrder(t *testing.T) {
	h := sha.New()
	for _, s := range []string{"", "one", "", "two", "three", ""} {
		h.Write([]byte(s))
	}
	h.Write(nil)
	if h.Sum() != sha.Sum([]byte("onetwothree")) {
		t.Error("not the digest of what was written, in order")
	}
	if h.Sum() == sha.Sum([]byte("twoonethree")) {
		t.Error("the order does not count")
	}
}

// P1.3: Sum changes nothing: it can be asked again, and more can be written behind it, at every length.
func TestWriteBehindSum(t *testing.T) {
	b := pattern(300)
	h := sha.New()
	for n := range len(b) {
		want := sha256.Sum256(b[:n])
		for range 3 {
			if d := h.Sum(); d != want {
				t.Fatalf("%d bytes: %x, want %x", n, d, want)
			}
		}
		h.Write(b[n : n+1])
	}
}

// P1.3: what is written is taken at once, not kept to be read later.
func TestWriteKeepsNoArgument(t *testing.T) {
	for n := range 200 {
		b := pattern(n)
		want := sha256.Sum256(b)
		h := sha.New()
		h.Write(b)
		clear(b)
		if h.Sum() != want {
			t.Fatalf("%d bytes: the digest follows the argument", n)
		}
	}
}

// P1.4: into which two or three calls of Write the bytes are divided does not matter.
func TestWriteAllCuts(t *testing.T) {
	b := pattern(200)
	want := sha.Sum(b)
	for i := range len(b) + 1 {
		for j := i; j <= len(b); j += 1 + j%5 {
			h := sha.New()
			h.Write(b[:i])
			h.Write(b[i:j])
			h.Write(b[j:])
			if h.Sum() != want {
				t.Fatalf("cut at %d and %d: another digest", i, j)
			}
		}
	}
}

// P1.4: pieces of every size, and of sizes that change, with sums asked in between.
func TestWriteAllSizes(t *testing.T) {
	b := pattern(1000)
	want := sha256.Sum256(b)
	for size := 1; size <= 200; size++ {
		even, growing := sha.New(), sha.New()
		for rest := b; len(rest) > 0; rest = rest[min(size, len(rest)):] {
			even.Write(rest[:min(size, len(rest))])
		}
		for rest, n := b, size; len(rest) > 0; n += 3 {
			k := min(n, len(rest))
			growing.Write(rest[:k])
			growing.Sum()
			rest = rest[k:]
		}
		if even.Sum() != want || growing.Sum() != want {
			t.Errorf("pieces of %d bytes: another digest", size)
		}
	}
}

// The chapter's first paragraph: the package imports nothing.
func TestImportsNothing(t *testing.T) {
	files, err := filepath.Glob("*.go")
	if err != nil || len(files) == 0 {
		t.Fatal(files, err)
	}
	for _, name := range files {
		if strings.HasSuffix(name, "_test.go") {
			continue
		}
		f, err := parser.ParseFile(token.NewFileSet(), name, nil, parser.ImportsOnly)
		if err != nil {
			t.Fatal(err)
		}
		for _, i := range f.Imports {
			t.Errorf("%s imports %s", name, i.Path.Value)
		}
	}
}
