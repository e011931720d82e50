package mean

import (
	"slices"

	"touchmark/api"
	"touchmark/value"
)

// table returns the number of the table that a plan names.
func (e *evaluation) table(p api.Plan) int {
	return slices.IndexFunc(e.Tables, func(t api.Table) bool { return t.Name == p.Table })
}

type scan struct{}

func (scan) each(e *evaluation, p api.Plan, take taker) {
	for _, r := range e.Rows[e.table(p)] {
		take(r.Row, r.Count)
	}
}

type seek struct{}

func (seek) each(e *evaluation, p api.Plan, take taker) {
	i := e.table(p)
	for _, r := range e.Rows[i] {
		if isWithin(r.Row[e.Tables[i].Key], p.Terms[0].Value, p.Terms[1].Value) {
			take(r.Row, r.Count)
		}
	}
}

// isWithin returns whether a key is within bounds, of which NULL is none.
func isWithin(key, low, high api.Value) bool {
	return (low.Kind == api.Null || value.Compare(key, low) >= 0) &&
		(high.Kind == api.Null || value.Compare(key, high) <= 0)
}

type selection struct{}

func (selection) each(e *evaluation, p api.Plan, take taker) {
	e.each(p.Args[0], func(r api.Row, n int64) {
		if e.isTrue(p.Terms[0], r) {
			take(r, n)
		}
	})
}

type projection struct{}

func (projection) each(e *evaluation, p api.Plan, take taker) {
	e.each(p.Args[0], func(r api.Row, n int64) { take(e.terms(p.Terms, r), n) })
}

type union struct{}

func (union) each(e *evaluation, p api.Plan, take taker) {
	for _, a := range p.Args {
		e.each(a, take)
	}
}

type difference struct{}

func (difference) each(e *evaluation, p api.Plan, take taker) {
	left, right := e.rows(p.Args[0]), e.rows(p.Args[1])
	for _, l := range left {
		n := l.Count
		if i, ok := slices.BinarySearchFunc(right, l, byRow); ok {
			n -= right[i].Count
		}
		if n > 0 {
			take(l.Row, n)
		}
	}
}

type distinction struct{}

func (distinction) each(e *evaluation, p api.Plan, take taker) {
	for _, r := range e.rows(p.Args[0]) {
		take(r.Row, 1)
	}
}

type order struct{}

func (order) each(e *evaluation, p api.Plan, take taker) {
	rows := e.rows(p.Args[0])
	slices.SortFunc(rows, func(a, b api.Counted) int { return byKeys(p.Keys, a.Row, b.Row) })
	for _, r := range rows {
		take(r.Row, r.Count)
	}
}

// byKeys compares two rows by keys, and those with equal ones by all their values.
func byKeys(keys []api.Key, a, b api.Row) int {
	for _, k := range keys {
		c := value.Compare(a[k.Col], b[k.Col])
		if k.Down {
			c = -c
		}
		if c != 0 {
			return c
		}
	}
	return value.CompareRows(a, b)
}

type limit struct{}

func (limit) each(e *evaluation, p api.Plan, take taker) {
	left := p.N
	// All rows are evaluated, whatever N is: the errors of each count.
	e.each(p.Args[0], func(r api.Row, n int64) {
		if n = min(n, left); n > 0 {
			take(r, n)
			left -= n
		}
	})
}
