package code

import (
	"touchmark/api"
	"touchmark/sha"
)

const (
	numberBytes = 8
	sealBytes   = numberBytes + len(sha.Digest{}) // what a seal adds
)

// Seal returns the length of b, b, and the digest of b.
func Seal(b []byte) []byte {
	sum := sha.Of(b)
	sealed := appendNumber(make([]byte, 0, sealBytes+len(b)), uint64(len(b)))
	sealed = append(sealed, b...)
	return append(sealed, sum[:]...)
}

// Open returns the bytes that were sealed and the bytes behind their seal; otherwise an error.
func Open(b []byte) ([]byte, []byte, api.Errno) {
	// The length may be a lie of any size, so nothing is added to it before it is known to fit.
	if len(b) < sealBytes || number(b) > uint64(len(b)-sealBytes) {
		return nil, nil, api.ErrShort
	}
	size := int(number(b))
	enclosed, rest := b[numberBytes:numberBytes+size], b[sealBytes+size:]
	sum := sha.Of(enclosed)
	if string(sum[:]) != string(b[numberBytes+size:sealBytes+size]) {
		return nil, nil, api.ErrSum
	}
	return copied(enclosed), copied(rest), api.OK
}

func copied(b []byte) []byte {
	return append([]byte(nil), b...)
}

// number is the first 8 bytes of b, most significant byte first.
func number(b []byte) uint64 {
	var n uint64
	for _, x := range b[:numberBytes] {
		n = n<<8 | uint64(x)
	}
	return n
}

// appendNumber appends n as 8 bytes, most significant byte first.
func appendNumber(b []byte, n uint64) []byte {
	for shift := 56; shift >= 0; shift -= 8 {
		b = append(b, byte(n>>shift))
	}
	return b
}
