package plan

import (
	"math"

	"touchmark/api"
)

// tables are those that a plan can name.
type tables []api.Table

// check returns the columns of a plan that is not too deep, or its first error.
func (t tables) check(p api.Plan) (columns, api.Errno) {
	operations := t.operations()
	// outermost tells whether all plans around a plan are limits: the others have no use for an order.
	var examine func(p api.Plan, outermost bool) (columns, api.Errno)
	examine = func(p api.Plan, outermost bool) (columns, api.Errno) {
		args := make([]columns, len(p.Args))
		for i, a := range p.Args {
			l, e := examine(a, outermost && p.Op == api.PlanLimit)
			if e != api.OK {
				return nil, e
			}
			args[i] = l
		}
		o, ok := operations[p.Op]
		if !ok || !o.fit(p) || isOrder(p) && !outermost {
			return nil, api.ErrForm
		}
		return o.result(p, args)
	}
	return examine(p, true)
}

func isOrder(p api.Plan) bool { return p.Op == api.PlanSort || p.Op == api.PlanLimit }

// parts is what the plans of one kind have: how many Args, at least and at most how many Terms, and which of the other parts there may be.
type parts struct {
	args, least, most    int
	table, aggs, keys, n bool
}

// fit returns whether a plan has these parts, and no others.
func (w parts) fit(p api.Plan) bool {
	return len(p.Args) == w.args && len(p.Terms) >= w.least && len(p.Terms) <= w.most &&
		(w.table || p.Table == "") && (w.aggs || len(p.Aggs) == 0) && (w.keys || len(p.Keys) == 0) && (w.n || p.N == 0)
}

// operation is one kind of plans: result determines the columns of a plan that has the parts from those of its Args, which it may use up.
type operation struct {
	parts
	result func(p api.Plan, args []columns) (columns, api.Errno)
}

func (t tables) operations() map[int]operation {
	joined := parts{args: 2, least: 1, most: 1}
	return map[int]operation{
		api.PlanScan:     {parts{table: true}, t.scan},
		api.PlanSeek:     {parts{table: true, least: 2, most: 2}, t.seek},
		api.PlanSelect:   {parts{args: 1, least: 1, most: 1}, under(first)},
		api.PlanProject:  {parts{args: 1, least: 1, most: math.MaxInt}, projected},
		api.PlanJoin:     {joined, under(joint)},
		api.PlanLeft:     {joined, under(padded)},
		api.PlanSemi:     {joined, under(first)},
		api.PlanAnti:     {joined, under(first)},
		api.PlanGroup:    {parts{args: 1, most: math.MaxInt, aggs: true}, grouped},
		api.PlanUnion:    {parts{args: 2}, united},
		api.PlanExcept:   {parts{args: 2}, united},
		api.PlanDistinct: {parts{args: 1}, same},
		api.PlanSort:     {parts{args: 1, keys: true}, sorted},
		api.PlanLimit:    {parts{args: 1, n: true}, limited},
	}
}
