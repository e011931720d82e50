package rules

import (
	"slices"

	"touchmark/api"
)

// merge is for a select of a plan whose own condition does nothing but choose rows.
func (tables) merge(s api.Plan) (api.Plan, bool) {
	p, inner := s.Terms[0], s.Args[0]
	return with(inner, both(inner.Terms[0], p)), Quiet(p)
}

// split is for plans whose condition does nothing but choose rows, which a select can do as well.
func (tables) split(x api.Plan) (api.Plan, bool) {
	p, q, ok := halves(x.Terms[0])
	return choose(q, with(x, p)), ok && Quiet(q)
}

func (tables) selectInProject(s api.Plan) (api.Plan, bool) {
	p, project := s.Terms[0], s.Args[0]
	chosen := choose(substituted(p, project.Terms), project.Args[0])
	return within(project, chosen), Quiet(p) && areQuiet(project.Terms)
}

// selectInLeftOf is for plans of two others whose rows are those of the left one, as they are or with more behind them.
func (t tables) selectInLeftOf(s api.Plan) (api.Plan, bool) {
	p, inner := s.Terms[0], s.Args[0]
	x, y := inner.Args[0], inner.Args[1]
	return within(inner, choose(p, x), y), Quiet(p) && areQuiet(inner.Terms) && refersOnly(p, 0, t.width(x))
}

func (t tables) leftToJoin(s api.Plan) (api.Plan, bool) {
	p, join := s.Terms[0], s.Args[0]
	join.Op = api.PlanJoin
	return within(s, join), Quiet(p) && isNeverTrue(p, t.width(join.Args[0]))
}

// isNeverTrue returns whether a look at a condition alone shows that it is not true if the columns from a number on are NULL.
func isNeverTrue(p api.Term, from int) bool {
	return (p.Op == api.OpNotNull || isComparison(p.Op)) &&
		slices.ContainsFunc(p.Args, func(a api.Term) bool { return a.Op == api.OpColumn && a.Col >= from })
}

func (tables) selectInBoth(s api.Plan) (api.Plan, bool) {
	p, inner := s.Terms[0], s.Args[0]
	made := within(inner, choose(p, inner.Args[0]), choose(p, inner.Args[1]))
	return made, inner.Op == api.PlanUnion || Quiet(p)
}

func (tables) selectInDistinct(s api.Plan) (api.Plan, bool) {
	p, distinct := s.Terms[0], s.Args[0]
	return within(distinct, choose(p, distinct.Args[0])), Quiet(p)
}

func (tables) selectInGroup(s api.Plan) (api.Plan, bool) {
	p, group := s.Terms[0], s.Args[0]
	// A group without Terms is there even if all rows are gone.
	if len(group.Terms) == 0 || !refersOnly(p, 0, len(group.Terms)) {
		return api.Plan{}, false
	}
	chosen := choose(substituted(p, group.Terms), group.Args[0])
	return within(group, chosen), Quiet(p) && areQuiet(group.Terms) && all(group.Aggs, isQuietAgg)
}

// isQuietAgg returns whether an aggregate function has no error, whatever the rows are.
func isQuietAgg(a api.Agg) bool { return a.Op != api.OpSum && areQuiet(a.Args) }

func (tables) dropSelect(s api.Plan) (api.Plan, bool) {
	p := s.Terms[0]
	return s.Args[0], p.Op == api.OpValue && p.Value == truth()
}

func (t tables) scanToSeek(s api.Plan) (api.Plan, bool) {
	p, scan := s.Terms[0], s.Args[0]
	l := bounds(p, t.key(scan.Table))
	scan.Op = api.PlanSeek
	return within(s, with(scan, l...)), Quiet(p) && l != nil
}

// key returns the number of a table's key, or -1.
func (t tables) key(name string) int {
	i := slices.IndexFunc(t, func(x api.Table) bool { return x.Name == name })
	return t[i].Key
}

// bounds returns the values between which a key is wherever a condition is true, as the first conjunct tells that compares it with a value; or nil if there is none.
func bounds(p api.Term, key int) []api.Term {
	if p, q, ok := halves(p); ok {
		if l := bounds(p, key); l != nil {
			return l
		}
		return bounds(q, key)
	}
	if len(p.Args) != 2 || p.Args[0].Op != api.OpColumn || p.Args[0].Col != key || p.Args[1].Op != api.OpValue || p.Args[1].Value.Kind == api.Null {
		return nil
	}
	v, none := p.Args[1], api.Term{Op: api.OpValue}
	switch p.Op {
	case api.OpEq:
		return []api.Term{v, v}
	case api.OpLt, api.OpLe:
		return []api.Term{none, v}
	case api.OpGt, api.OpGe:
		return []api.Term{v, none}
	}
	return nil
}
