package page

import "touchmark/disk"

const (
	headerPage = 0
	rootCount  = 16
)

// header is the numbers that page 0 begins with. They are kept apart from the page, so that they are known whatever the disk says.
type header struct {
	used, head uint64
	roots      [rootCount]uint64
}

// headerIn returns the numbers in a header's page.
func headerIn(b disk.Block) header {
	h := header{used: number(b[:]), head: number(b[numberBytes:])}
	for i := range h.roots {
		h.roots[i] = number(b[(2+i)*numberBytes:])
	}
	return h
}

// over returns the page b with these numbers at its beginning.
func (h header) over(b disk.Block) disk.Block {
	putNumber(b[:], h.used)
	putNumber(b[numberBytes:], h.head)
	for i, v := range h.roots {
		putNumber(b[(2+i)*numberBytes:], v)
	}
	return b
}
