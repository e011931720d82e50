package tree

import (
	"bytes"

	"touchmark/disk"
)

const (
	levels      = 64 // a tree's root is on level 63 only after some 2 to the power of 63 calls of Set
	headBytes   = 2  // the level and 1, so that neither zeros nor a free page are a node, and how many entries there are
	numberBytes = 8
	entryBytes  = 1 + numberBytes // the length of the key, which comes behind it, and the number
)

// size returns how many bytes of a page the node takes.
func (n node) size() int {
	return headBytes + entriesSize(n.entries)
}

func entriesSize(entries []entry) int {
	size := 0
	for _, x := range entries {
		size += entryBytes + len(x.key)
	}
	return size
}

// block returns the page of a node that has room on one.
func (n node) block() disk.Block {
	var b disk.Block
	b[0], b[1] = byte(n.level+1), byte(len(n.entries))
	at := headBytes
	for _, x := range n.entries {
		b[at] = byte(len(x.key))
		at += 1 + copy(b[at+1:], x.key)
		putNumber(b[at:], x.n)
		at += numberBytes
	}
	return b
}

// nodeIn returns the node of a page, and whether there is one.
func nodeIn(b disk.Block) (node, bool) {
	n := node{level: int(b[0]) - 1}
	rest := b[headBytes:]
	for range b[1] {
		if len(rest) < entryBytes || len(rest) < entryBytes+int(rest[0]) {
			return node{}, false
		}
		end := 1 + int(rest[0])
		n.entries = append(n.entries, entry{key: rest[1:end], n: number(rest[end:])})
		rest = rest[end+numberBytes:]
	}
	return n, n.sound()
}

// sound returns whether a node can be one of a tree, wherever it stands.
func (n node) sound() bool {
	if n.level < 0 || n.level >= levels {
		return false
	}
	if n.level > 0 && (len(n.entries) < 2 || len(n.entries[0].key) > 0) {
		return false
	}
	for i, x := range n.entries {
		if len(x.key) > MaxKey || i > 0 && bytes.Compare(n.entries[i-1].key, x.key) >= 0 {
			return false
		}
	}
	return true
}

// number is the first 8 bytes of b, most significant byte first.
func number(b []byte) uint64 {
	var n uint64
	for _, x := range b[:numberBytes] {
		n = n<<8 | uint64(x)
	}
	return n
}

// putNumber makes the first 8 bytes of b n, most significant byte first.
func putNumber(b []byte, n uint64) {
	for i := range numberBytes {
		b[i] = byte(n >> (56 - 8*i))
	}
}
