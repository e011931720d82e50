package plan

import "touchmark/api"

// where returns a plan with those rows of a relation for which a condition is true.
func (l *lowering) where(from relation, w api.Expr) api.Plan {
	var plain []api.Term
	var asking []api.Expr
	for _, x := range conjuncts(w) {
		if len(x.Query) > 0 {
			asking = append(asking, x)
		} else {
			plain = append(plain, from.reader().term(x))
		}
	}
	p := from.Plan
	if len(plain) > 0 {
		p = on(p, api.PlanSelect, conjunction(plain))
	}
	for _, x := range asking {
		p = l.asked(relation{p, from.scope}, x)
	}
	return p
}

// asked returns a plan with those rows of a relation for which a conjunct with a query is true.
func (l *lowering) asked(from relation, x api.Expr) api.Plan {
	s := x.Query[0].Select
	right := l.sources(s.From)
	inside := reader(sight{own: right.scope, around: from.scope}.column)
	op := api.PlanSemi
	if x.Op == api.OpNotExists || x.Op == api.OpNotIn {
		op = api.PlanAnti
	}
	compared := func() api.Term {
		return node(api.OpEq, from.reader().term(x.Args[0]), inside.term(s.Items[0].Expr))
	}
	var all []api.Term
	switch x.Op {
	case api.OpIn:
		all = append(all, compared())
	case api.OpNotIn:
		// It is made twice, since no two parts of a plan may share memory.
		all = append(all, node(api.OpOr, node(api.OpIsNull, compared()), compared()))
	}
	all = append(all, inside.terms(s.Where)...)
	return api.Plan{Op: op, Args: []api.Plan{from.Plan, right.Plan}, Terms: []api.Term{conjunction(all)}}
}

// conjuncts returns the conjuncts of a condition, from left to right.
func conjuncts(x api.Expr) []api.Expr {
	if x.Op != api.OpAnd {
		return []api.Expr{x}
	}
	var l []api.Expr
	for _, a := range x.Args {
		l = append(l, conjuncts(a)...)
	}
	return l
}

// conjunction returns a term that is true where all of a list are.
func conjunction(l []api.Term) api.Term {
	if len(l) == 0 {
		return api.Term{Op: api.OpValue, Value: api.Value{Kind: api.Bool, N: 1}}
	}
	whole := l[0]
	for _, t := range l[1:] {
		whole = node(api.OpAnd, whole, t)
	}
	return whole
}

func node(op int, args ...api.Term) api.Term { return api.Term{Op: op, Args: args} }
