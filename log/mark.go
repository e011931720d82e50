package log

import (
	"touchmark/api"
	"touchmark/disk"
)

// numberBytes is the size of a number in a mark, and of a record's length.
const numberBytes = 8

// mark says how far the records reach. Of a log's two marks, the even numbers are in the first block, the odd ones in the second.
type mark struct {
	number, epoch, end uint64
}

// place is the number of the mark's block among the log's.
func (m mark) place() int {
	return int(m.number % marks)
}

// block is the mark as it is written: in the opposite order behind itself, so that a torn write never has the number twice.
func (m mark) block() disk.Block {
	var b disk.Block
	written := b[:0]
	for _, n := range [...]uint64{m.number, m.epoch, m.end, m.end, m.epoch, m.number} {
		written = appendNumber(written, n)
	}
	return b
}

// markIn returns the mark in a block, and whether it was written as a whole.
func markIn(b disk.Block) (mark, bool) {
	var n [6]uint64
	for i := range n {
		n[i] = number(b[i*numberBytes:])
	}
	m, mirrored := mark{n[0], n[1], n[2]}, mark{n[5], n[4], n[3]}
	return m, m == mirrored
}

// recordsIn returns the records of which b consists, or ErrForm.
func recordsIn(b []byte) ([][]byte, api.Errno) {
	var records [][]byte
	for len(b) > 0 {
		// The length may be of any size, so nothing is added to it before it is known to fit.
		if len(b) < numberBytes || number(b) > uint64(len(b)-numberBytes) {
			return nil, api.ErrForm
		}
		end := numberBytes + int(number(b))
		records = append(records, append([]byte(nil), b[numberBytes:end]...))
		b = b[end:]
	}
	return records, api.OK
}

// appendRecord appends a record as it lies in the area.
func appendRecord(b, record []byte) []byte {
	return append(appendNumber(b, uint64(len(record))), record...)
}

// number is the first 8 bytes of b, most significant byte first.
func number(b []byte) uint64 {
	var n uint64
	for _, x := range b[:numberBytes] {
		n = n<<8 | uint64(x)
	}
	return n
}

// appendNumber appends n as 8 bytes, most significant byte first.
func appendNumber(b []byte, n uint64) []byte {
	for shift := 56; shift >= 0; shift -= 8 {
		b = append(b, byte(n>>shift))
	}
	return b
}
