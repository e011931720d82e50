package disk

import "touchmark/api"

// Up brings the disk up after a failure that only those unsynced writes survive that keep names, the last of them torn after so many bytes.
func (d *Disk) Up(keep []bool, torn int) {
	d.undo()
	kept := survivors(d.loose, keep)
	for i, w := range kept {
		if i == len(kept)-1 {
			// What is behind the tear is what the survivors ahead of it left there, not what the write found when it was made.
			w.after = tear(d.written[w.n], w.after, torn)
		}
		d.written[w.n] = w.after
	}
	d.loose, d.fuse, d.down = nil, noFuse, false
}

// undo takes all unsynced writes back, the last one first, because two of them can be of the same block.
func (d *Disk) undo() {
	for i := len(d.loose) - 1; i >= 0; i-- {
		w := d.loose[i]
		d.written[w.n] = w.before
	}
}

// survivors returns the writes that keep names, in their order.
func survivors(writes []write, keep []bool) []write {
	var kept []write
	for i, w := range writes {
		if i < len(keep) && keep[i] {
			kept = append(kept, w)
		}
	}
	return kept
}

// tear returns the first torn bytes of a new block and the other ones of the old; all of the new if that is no place inside a block.
func tear(before, after Block, torn int) Block {
	if torn < 0 || torn >= api.BlockSize {
		return after
	}
	copy(before[:torn], after[:torn])
	return before
}
