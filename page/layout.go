package page

import (
	"touchmark/api"
	"touchmark/disk"
)

const (
	minSize = 3
	marks   = 2 // the log's blocks ahead of its area
)

// layout says where things are on a disk: the log's blocks, and then the homes of the pages.
type layout struct {
	disk *disk.Disk
	size int
}

// layoutOf returns the layout with a log of so many blocks, or ErrArg.
func layoutOf(d *disk.Disk, size int) (layout, api.Errno) {
	if size < minSize || size >= d.Blocks() {
		return layout{}, api.ErrArg
	}
	return layout{disk: d, size: size}, api.OK
}

// pages is how many pages exist.
func (l layout) pages() int {
	return l.disk.Blocks() - l.size
}

func (l layout) readHome(n int) (disk.Block, api.Errno) {
	return l.disk.Read(l.size + n)
}

func (l layout) writeHome(n int, b disk.Block) api.Errno {
	return l.disk.Write(l.size+n, b)
}

// readArea returns the page that begins at an offset of the log's area. The log itself tells its records only when it is opened; read from there, pages need neither be held nor be brought home before a checkpoint.
func (l layout) readArea(at int) (disk.Block, api.Errno) {
	var b disk.Block
	for have := 0; have < len(b); {
		from, e := l.disk.Read(marks + (at+have)/api.BlockSize)
		if e != api.OK {
			return disk.Block{}, e
		}
		have += copy(b[have:], from[(at+have)%api.BlockSize:])
	}
	return b, api.OK
}
