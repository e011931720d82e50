package page

import "touchmark/disk"

// cache holds the committed contents of some pages; those that came first go first.
type cache struct {
	most  int
	pages map[int]disk.Block
	order []int // their numbers, in the order in which they came
}

// newCache returns a cache of at most so many pages.
func newCache(most int) cache {
	return cache{most: max(most, 0), pages: map[int]disk.Block{}}
}

// keep holds the contents of a page, in place of older ones of the same page or, if there is no room, of another.
func (c *cache) keep(n int, b disk.Block) {
	if c.most == 0 {
		return
	}
	if _, ok := c.pages[n]; !ok {
		c.makeRoom()
		c.order = append(c.order, n)
	}
	c.pages[n] = b
}

func (c *cache) makeRoom() {
	if len(c.order) < c.most {
		return
	}
	delete(c.pages, c.order[0])
	c.order = c.order[1:]
}
