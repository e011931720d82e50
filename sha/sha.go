// Package sha computes SHA-256 digests of byte strings and of lists of byte strings. It imports nothing.
package sha

const (
	blockBytes  = 64
	numberBytes = 8
)

// Digest is a SHA-256 digest.
type Digest [32]byte

// Sum returns the digest of b.
func Sum(b []byte) Digest {
	h := New()
	h.Write(b)
	return h.Sum()
}

// Hash computes the digest of bytes that come in pieces.
type Hash struct {
	state  [8]uint32
	block  [blockBytes]byte // the bytes behind the last whole block
	length uint64           // of all that was written
}

// New returns a hash to which nothing has been written.
func New() *Hash {
	return &Hash{state: [8]uint32{
		0x6a09e667, 0xbb67ae85, 0x3c6ef372, 0xa54ff53a,
		0x510e527f, 0x9b05688c, 0x1f83d9ab, 0x5be0cd19,
	}}
}

// Write appends b to what was written before.
func (h *Hash) Write(b []byte) {
	for len(b) > 0 {
		used := int(h.length % blockBytes)
		n := copy(h.block[used:], b)
		h.length += uint64(n)
		b = b[n:]
		if used+n == blockBytes {
			h.state = compressed(h.state, h.block)
		}
	}
}

// Sum returns the digest of everything written so far; more can be written afterwards.
func (h *Hash) Sum() Digest {
	last := *h // what is written later must not come behind the padding
	last.pad()
	return last.digest()
}

// pad completes the padded bytes, so that only whole blocks are left.
func (h *Hash) pad() {
	const room = blockBytes - numberBytes
	bits := h.length * 8
	zeros := (blockBytes + room - 1 - h.length%blockBytes) % blockBytes
	var padding [blockBytes]byte
	padding[0] = 0x80
	h.Write(padding[:1+zeros])
	h.Write(appendNumber(nil, bits))
}

func (h *Hash) digest() Digest {
	var d Digest
	for i, x := range h.state {
		d[4*i] = byte(x >> 24)
		d[4*i+1] = byte(x >> 16)
		d[4*i+2] = byte(x >> 8)
		d[4*i+3] = byte(x)
	}
	return d
}

// appendNumber appends n as 8 bytes, most significant byte first.
func appendNumber(b []byte, n uint64) []byte {
	for shift := 56; shift >= 0; shift -= 8 {
		b = append(b, byte(n>>shift))
	}
	return b
}
