package page

import (
	"maps"
	"slices"

	"touchmark/api"
	"touchmark/disk"
)

// Commit makes all changes permanent, or takes them back.
func (p *Pager) Commit() api.Errno {
	if p.Changed() == 0 {
		return api.OK
	}
	if e := p.save(); e != api.OK {
		p.Abort()
		return e
	}
	p.before, p.changed = p.header, map[int]disk.Block{}
	return api.OK
}

// Abort takes all changes back.
func (p *Pager) Abort() {
	p.header, p.changed = p.before, map[int]disk.Block{}
}

// Checkpoint brings the pages in the log home, and begins the log anew. Until the homes are synced, the log has to keep its records.
func (p *Pager) Checkpoint() api.Errno {
	for _, n := range slices.Sorted(maps.Keys(p.logged)) {
		b, e := p.stored(n)
		if e != api.OK {
			return e
		}
		if e := p.writeHome(n, b); e != api.OK {
			return e
		}
	}
	if e := p.disk.Sync(); e != api.OK {
		return e
	}
	if e := p.Restart(); e != api.OK {
		return e
	}
	p.logged, p.end = map[int]int{}, 0
	return api.OK
}

// save brings the changed pages to the log, as one record.
func (p *Pager) save() api.Errno {
	pages, e := p.changes()
	if e != api.OK {
		return e
	}
	numbers := slices.Sorted(maps.Keys(pages))
	if e := p.appendRecord(record(numbers, pages)); e != api.OK {
		return e
	}
	if e := p.Sync(); e != api.OK {
		return e
	}
	p.recorded(numbers)
	for _, n := range numbers {
		p.cache.keep(n, pages[n])
	}
	return api.OK
}

// changes returns the changed pages, the header among them.
func (p *Pager) changes() (map[int]disk.Block, api.Errno) {
	pages := maps.Clone(p.changed)
	if p.header != p.before {
		// What is behind the header's numbers stays as it was.
		old, e := p.committed(headerPage)
		if e != api.OK {
			return nil, e
		}
		pages[headerPage] = p.header.over(old)
	}
	return pages, api.OK
}

// appendRecord appends a record to the log, which is begun anew if it has no space.
func (p *Pager) appendRecord(record []byte) api.Errno {
	if p.Append(record) == api.OK {
		return api.OK
	}
	if e := p.Checkpoint(); e != api.OK {
		return e
	}
	return p.Append(record)
}

// recorded notes where the pages of the next record in the log's area lie.
func (p *Pager) recorded(numbers []int) {
	at := p.end + numberBytes // behind the record's length
	for _, n := range numbers {
		p.logged[n] = at + numberBytes
		at += entryBytes
	}
	p.end = at
}
