package mean

import (
	"slices"

	"touchmark/api"
	"touchmark/value"
)

// bag collects rows, and how often there is each of them.
type bag struct {
	rows []api.Counted
	full int // with so many rows it puts equal ones together, so that its memory is that of different ones
}

// add puts a row in so many times.
func (b *bag) add(r api.Row, n int64) {
	if len(b.rows) == b.full {
		b.full = 2*len(b.sorted()) + 1024
	}
	b.rows = append(b.rows, api.Counted{Row: slices.Clone(r), Count: n})
}

// sorted returns the rows in ascending order, each once.
func (b *bag) sorted() []api.Counted {
	slices.SortFunc(b.rows, byRow)
	different := b.rows[:0]
	for _, x := range b.rows {
		last := len(different) - 1
		if last >= 0 && byRow(different[last], x) == 0 {
			different[last].Count += x.Count
		} else {
			different = append(different, x)
		}
	}
	clear(b.rows[len(different):]) // they need no memory any more
	b.rows = different
	return b.rows
}

func byRow(a, b api.Counted) int { return value.CompareRows(a.Row, b.Row) }
