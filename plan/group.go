package plan

import (
	"slices"

	"touchmark/api"
)

func isGrouped(s api.Select) bool {
	return len(s.Group) > 0 || len(s.Having) > 0 ||
		slices.ContainsFunc(s.Items, func(i api.Item) bool { return hasAggregate(i.Expr) })
}

func hasAggregate(x api.Expr) bool {
	return isAggregate(x.Op) || slices.ContainsFunc(x.Args, hasAggregate)
}

func isAggregate(op int) bool { return op >= api.OpCountAll && op <= api.OpMax }

// grouping is the columns of a PlanGroup: the expressions by which rows are grouped, and behind them the aggregates that were met up to now.
type grouping struct {
	by   []api.Expr
	aggs []api.Agg
	rows reader // of what stands in an aggregate
}

func (g *grouping) column(x api.Expr) (int, bool) {
	if i := slices.IndexFunc(g.by, func(y api.Expr) bool { return areSameExprs(x, y) }); i >= 0 {
		return i, true
	}
	if !isAggregate(x.Op) {
		return 0, false
	}
	g.aggs = append(g.aggs, api.Agg{Op: x.Op, Args: g.rows.terms(x.Args)})
	return len(g.by) + len(g.aggs) - 1, true
}

// areSameExprs returns whether two expressions are equal. Where they are asked for neither has a query in it.
func areSameExprs(a, b api.Expr) bool {
	return a.Op == b.Op && a.Table == b.Table && a.Name == b.Name && a.Value == b.Value &&
		slices.EqualFunc(a.Args, b.Args, areSameExprs)
}

// grouped returns the plan of a grouped query, given that of its sources' rows.
func (l *lowering) grouped(s api.Select, from relation) relation {
	g := grouping{by: s.Group, rows: from.reader()}
	terms, told := l.items(s.Items, g.column, nil)
	having := reader(g.column).terms(s.Having) // behind the items, whose aggregates come first
	p := on(from.Plan, api.PlanGroup, g.rows.terms(s.Group)...)
	p.Aggs = g.aggs
	if len(having) > 0 {
		p = on(p, api.PlanSelect, having...)
	}
	return relation{on(p, api.PlanProject, terms...), told}
}
