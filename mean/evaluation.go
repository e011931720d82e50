package mean

import (
	"slices"
	"strings"

	"touchmark/api"
)

// room is how many rows plans may pass on to those around them. More are beyond the bound for which something is promised, and could be too many to be counted or kept: an error is better.
const room = 1<<31 - 1

// operator evaluates plans of one kind.
type operator interface {
	// each passes on the rows of a plan in which plan.Check finds no error, in any order but for that of a PlanSort or PlanLimit; equal ones can come one by one.
	each(e *evaluation, p api.Plan, take taker)
}

// taker takes a row and how often there is one like it. The row is lent: who keeps it makes a copy.
type taker func(r api.Row, n int64)

func operators() map[int]operator {
	return map[int]operator{
		api.PlanScan:     scan{},
		api.PlanSeek:     seek{},
		api.PlanSelect:   selection{},
		api.PlanProject:  projection{},
		api.PlanJoin:     join{},
		api.PlanLeft:     join{outer: true},
		api.PlanSemi:     semijoin{wanted: true},
		api.PlanAnti:     semijoin{wanted: false},
		api.PlanGroup:    grouping{},
		api.PlanUnion:    union{},
		api.PlanExcept:   difference{},
		api.PlanDistinct: distinction{},
		api.PlanSort:     order{},
		api.PlanLimit:    limit{},
	}
}

// evaluation is what plans are evaluated over and by, and the errors that occurred.
type evaluation struct {
	api.State
	failures
	operators map[int]operator
	left      int64 // for how many more rows there is room
}

// evaluate returns the rows of a plan in which plan.Check finds no error, if those in between are at most as many as there is room for.
func evaluate(s api.State, p api.Plan, room int64) ([]api.Row, api.Errno) {
	if p.Op != api.PlanSort && p.Op != api.PlanLimit {
		p = api.Plan{Op: api.PlanSort, Args: []api.Plan{p}} // without Keys: in ascending order
	}
	e := evaluation{State: s, operators: operators(), left: room}
	var rows []api.Row
	e.operators[p.Op].each(&e, p, func(r api.Row, n int64) {
		for range n {
			rows = append(rows, independent(r))
		}
	})
	if e.smallest != api.OK {
		return nil, e.smallest
	}
	return rows, api.OK
}

// each passes on the rows of a plan that is in another one.
func (e *evaluation) each(p api.Plan, take taker) {
	e.operators[p.Op].each(e, p, func(r api.Row, n int64) {
		if n > e.left {
			e.note(api.ErrMany)
			return
		}
		e.left -= n
		take(r, n)
	})
}

// rows returns the rows of a plan in ascending order, each once.
func (e *evaluation) rows(p api.Plan) []api.Counted {
	var b bag
	e.each(p, b.add)
	return b.sorted()
}

// independent returns a copy of a row that shares no memory with it.
func independent(r api.Row) api.Row {
	c := slices.Clone(r)
	for i, v := range r {
		c[i].S = strings.Clone(v.S)
	}
	return c
}
