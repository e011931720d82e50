package log

import (
	"touchmark/api"
	"touchmark/disk"
)

const (
	marks   = 2
	minSize = marks + 1
)

// blocks are those of a log: the two marks, and then the area.
type blocks struct {
	d           *disk.Disk
	first, size int
}

// blocksOf returns the blocks that a log can have, or ErrArg.
func blocksOf(d *disk.Disk, first, size int) (blocks, api.Errno) {
	// Nothing is added to first or size, as a sum of theirs may be too large for an int.
	if first < 0 || size < minSize || first > d.Blocks()-size {
		return blocks{}, api.ErrArg
	}
	return blocks{d: d, first: first, size: size}, api.OK
}

// room is the size of the area in bytes.
func (b blocks) room() int {
	return (b.size - marks) * api.BlockSize
}

// read returns the block with this number among the log's.
func (b blocks) read(n int) (disk.Block, api.Errno) {
	return b.d.Read(b.first + n)
}

// write writes the block with this number among the log's.
func (b blocks) write(n int, contents disk.Block) api.Errno {
	return b.d.Write(b.first+n, contents)
}

// newestMark returns the valid mark with the greater number, or ErrForm.
func (b blocks) newestMark() (mark, api.Errno) {
	var newest mark // its number 0 is that of no valid mark
	for n := range marks {
		contents, e := b.read(n)
		if e != api.OK {
			return mark{}, e
		}
		m, ok := markIn(contents)
		if ok && m.place() == n && m.number > newest.number {
			newest = m
		}
	}
	if newest.number == 0 {
		return mark{}, api.ErrForm
	}
	return newest, api.OK
}

// writeMark writes a mark to its block, and makes it permanent.
func (b blocks) writeMark(m mark) api.Errno {
	if e := b.write(m.place(), m.block()); e != api.OK {
		return e
	}
	return b.d.Sync()
}

// readArea returns the area up to an end.
func (b blocks) readArea(end int) ([]byte, api.Errno) {
	var read []byte
	for n := marks; len(read) < end; n++ {
		contents, e := b.read(n)
		if e != api.OK {
			return nil, e
		}
		read = append(read, contents[:min(end-len(read), api.BlockSize)]...)
	}
	return read, api.OK
}

// writeArea writes records to the area from offset at on, and makes them permanent. The last block comes first, as a full disk refuses that one before any other.
func (b blocks) writeArea(at int, records []byte) api.Errno {
	n, inside := marks+at/api.BlockSize, at%api.BlockSize
	before, e := b.read(n)
	if e != api.OK {
		return e
	}
	all := append(before[:inside:inside], records...)
	for i := (len(all) - 1) / api.BlockSize; i >= 0; i-- {
		var contents disk.Block
		copy(contents[:], all[i*api.BlockSize:])
		if e := b.write(n+i, contents); e != api.OK {
			return e
		}
	}
	return b.d.Sync()
}
