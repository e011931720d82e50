package mean

import (
	"slices"

	"touchmark/api"
	"touchmark/value"
)

// grouping sorts rows of a PlanGroup's values, those of Terms ahead of those that are aggregated: so groups stand together.
type grouping struct{}

func (grouping) each(e *evaluation, p api.Plan, take taker) {
	terms := slices.Clone(p.Terms)
	for _, a := range p.Aggs {
		terms = append(terms, aggregated(a))
	}
	var b bag
	e.each(p.Args[0], func(r api.Row, n int64) { b.add(e.terms(terms, r), n) })
	rows, keys := b.sorted(), len(p.Terms)
	if keys == 0 {
		take(e.group(p.Aggs, nil, rows), 1)
		return
	}
	for len(rows) > 0 {
		key := rows[0].Row[:keys]
		n := slices.IndexFunc(rows, func(r api.Counted) bool { return value.CompareRows(r.Row[:keys], key) != 0 })
		if n < 0 {
			n = len(rows)
		}
		take(e.group(p.Aggs, key, rows[:n]), 1)
		rows = rows[n:]
	}
}

// aggregated returns the term whose values an aggregate function is applied to: NULL for OpCountAll.
func aggregated(a api.Agg) api.Term {
	if a.Op == api.OpCountAll {
		return api.Term{Op: api.OpValue}
	}
	return a.Args[0]
}

// group returns the row of a group: its key, and the aggregate functions' results for what is behind the key in its rows.
func (e *evaluation) group(aggs []api.Agg, key api.Row, rows []api.Counted) api.Row {
	result := slices.Clone(key)
	for i, a := range aggs {
		v, f := value.Fold(a.Op, column(rows, len(key)+i))
		e.note(f)
		result = append(result, v) // beside an error it is NULL
	}
	return result
}

// column returns all values in a column of rows.
func column(rows []api.Counted, i int) []api.Value {
	n := int64(0)
	for _, r := range rows {
		n += r.Count
	}
	l := make([]api.Value, 0, n)
	for _, r := range rows {
		for range r.Count {
			l = append(l, r.Row[i])
		}
	}
	return l
}
