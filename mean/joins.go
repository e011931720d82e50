package mean

import (
	"slices"

	"touchmark/api"
	"touchmark/plan"
)

// join puts left rows and right ones together; an outer one also left rows that have no right one, and NULLs.
type join struct{ outer bool }

func (j join) each(e *evaluation, p api.Plan, take taker) {
	right := e.rows(p.Args[1])
	columns, _ := plan.Check(e.Tables, p.Args[1]) // there may be no row that would tell how many NULLs
	nulls := make(api.Row, len(columns))
	e.each(p.Args[0], func(l api.Row, n int64) {
		found := e.matches(p.Terms[0], l, right, func(both api.Row, m int64) { take(both, n*m) })
		if j.outer && !found {
			take(slices.Concat(l, nulls), n)
		}
	})
}

// semijoin keeps the left rows that have a right one, or those that have none.
type semijoin struct{ wanted bool }

func (s semijoin) each(e *evaluation, p api.Plan, take taker) {
	right := e.rows(p.Args[1])
	e.each(p.Args[0], func(l api.Row, n int64) {
		if e.matches(p.Terms[0], l, right, func(api.Row, int64) {}) == s.wanted {
			take(l, n)
		}
	})
}

// matches passes on a left row with each right one for which a term is true of both, and returns whether there is any. It evaluates all pairs, since the errors of each count.
func (e *evaluation) matches(t api.Term, left api.Row, right []api.Counted, take taker) bool {
	found := false
	both := slices.Clone(left)
	for _, r := range right {
		both = append(both[:len(left)], r.Row...)
		if e.isTrue(t, both) {
			take(both, r.Count)
			found = true
		}
	}
	return found
}
