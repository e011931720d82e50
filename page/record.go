package page

import (
	"touchmark/api"
	"touchmark/disk"
)

const (
	numberBytes = 8
	entryBytes  = numberBytes + api.BlockSize // a page in a record: its number and its contents
)

// record is the bytes by which the log keeps pages, in the order of their numbers.
func record(numbers []int, pages map[int]disk.Block) []byte {
	b := make([]byte, len(numbers)*entryBytes)
	for i, n := range numbers {
		entry := b[i*entryBytes:]
		putNumber(entry, uint64(n))
		contents := pages[n]
		copy(entry[numberBytes:], contents[:])
	}
	return b
}

// pagesIn returns the numbers of a record's pages, and whether it is a list of pages that exist.
func pagesIn(record []byte, exist int) ([]int, bool) {
	if len(record)%entryBytes != 0 {
		return nil, false
	}
	var numbers []int
	for at := 0; at < len(record); at += entryBytes {
		n := number(record[at:])
		if n >= uint64(exist) {
			return nil, false
		}
		numbers = append(numbers, int(n))
	}
	return numbers, true
}

// number is the first 8 bytes of b, most significant byte first.
func number(b []byte) uint64 {
	var n uint64
	for _, x := range b[:numberBytes] {
		n = n<<8 | uint64(x)
	}
	return n
}

// putNumber makes the first 8 bytes of b n, most significant byte first.
func putNumber(b []byte, n uint64) {
	for i := range numberBytes {
		b[i] = byte(n >> (56 - 8*i))
	}
}
