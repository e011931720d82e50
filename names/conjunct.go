package names

import "touchmark/api"

// where is the place for Where of a select: its conjuncts may have queries. They have no shape.
func (s sight) where(x api.Expr) (shape, api.Errno) {
	switch {
	case x.Op == api.OpAnd:
		return shape{}, every(x.Args, s.where)
	case hasQuery(x.Op):
		return shape{}, s.asked(x)
	}
	_, e := condition(s.plain)(x)
	return shape{}, e
}

// asked returns the first error of a conjunct with a query.
func (s sight) asked(x api.Expr) api.Errno {
	var operand shape
	for _, a := range x.Args {
		is, e := s.plain(a)
		if e != api.OK {
			return e
		}
		operand = is
	}
	q := x.Query[0]
	if !canBeAsked(q) {
		return api.ErrPlace
	}
	own, e := s.scope(q.Select.From)
	if e != api.OK {
		return e
	}
	inside := sight{own: own, around: s.own}
	if e := every(q.Select.Where, condition(inside.plain)); e != api.OK {
		return e
	}
	if x.Op == api.OpIn || x.Op == api.OpNotIn {
		return inside.held(operand, q.Select.Items)
	}
	return inside.examined(q.Select.Items)
}

// canBeAsked returns whether a query has nothing that one of exists or in may not have.
func canBeAsked(q api.Query) bool {
	s := q.Select
	return q.Op == api.QuerySelect && !s.Distinct && len(s.Group) == 0 && len(s.Having) == 0 && !haveAggregate(s.Items)
}

// held returns the first error of the items against which an operand is held.
func (s sight) held(operand shape, l []api.Item) api.Errno {
	if len(l) != 1 || l[0].Star {
		return api.ErrCount
	}
	is, e := s.plain(l[0].Expr)
	if e == api.OK && !agree(operand.kind, is.kind) {
		return api.ErrKind
	}
	return e
}

// examined returns the first error of items whose columns nobody asks for.
func (s sight) examined(l []api.Item) api.Errno {
	for _, i := range l {
		if i.Star {
			continue
		}
		if _, e := s.plain(i.Expr); e != api.OK {
			return e
		}
	}
	return api.OK
}
