package page

import (
	"touchmark/api"
	"touchmark/disk"
)

// Alloc returns a page that nobody uses, filled with zeros: the first free one, or else the one behind all that are in use.
func (p *Pager) Alloc() (int, api.Errno) {
	if p.header.head > headerPage && p.header.head < p.header.used {
		return p.allocHead(int(p.header.head))
	}
	n := int(p.header.used)
	if n >= p.pages() {
		return 0, api.ErrFull
	}
	p.header.used++
	p.set(n, disk.Block{})
	return n, api.OK
}

// allocHead takes the head off the free list.
func (p *Pager) allocHead(n int) (int, api.Errno) {
	b, e := p.current(n)
	if e != api.OK {
		return 0, e
	}
	p.header.head = number(b[:])
	p.set(n, disk.Block{})
	return n, api.OK
}

// Free gives a page back.
func (p *Pager) Free(n int) api.Errno {
	if !p.inUse(n) {
		return api.ErrRange
	}
	var b disk.Block
	putNumber(b[:], p.header.head)
	p.set(n, b)
	p.header.head = uint64(n)
	return api.OK
}
