package plan

import (
	"cmp"
	"strings"

	"touchmark/api"
)

// room is how many terms stars may become. Stars of stars could ask for any number: more of them, of 72 bytes each, are beyond all the bytes that a result can have, where an error is better than no memory.
const room = (1<<31 - 1) / 72

// lower returns the plan of a query that has no error, if its stars become at most as many terms as there is room for.
func lower(t []api.Table, q api.Query, room int) (api.Plan, api.Errno) {
	l := lowering{tables: t, left: room}
	p := l.query(q).Plan
	switch {
	case l.left < 0:
		return api.Plan{}, api.ErrMany
	case isDeep(p, 0):
		return api.Plan{}, api.ErrDeep
	}
	return p, api.OK
}

// lowering makes plans of queries that have no error over its tables.
type lowering struct {
	tables []api.Table
	left   int // how many more terms stars may become; less than 0: the plan is in vain
}

// relation is a plan, and what its columns are called.
type relation struct {
	api.Plan
	scope
}

// on makes a plan that has one other in it.
func on(p api.Plan, op int, terms ...api.Term) api.Plan {
	return api.Plan{Op: op, Args: []api.Plan{p}, Terms: terms}
}

func (l *lowering) query(q api.Query) relation {
	r := l.body(q)
	if len(q.Order) > 0 {
		r.Plan = on(r.Plan, api.PlanSort)
		for _, o := range q.Order {
			r.Keys = append(r.Keys, api.Key{Col: r.index(o.Expr), Down: o.Down})
		}
	}
	if q.Limited {
		r.Plan = on(r.Plan, api.PlanLimit)
		r.N = q.Limit
	}
	return r
}

// body returns a query's plan whatever its order is.
func (l *lowering) body(q api.Query) relation {
	op := api.PlanUnion
	switch q.Op {
	case api.QuerySelect:
		return l.selected(q.Select)
	case api.QueryExcept:
		op = api.PlanExcept
	}
	left, right := l.query(q.Parts[0]), l.query(q.Parts[1])
	return relation{api.Plan{Op: op, Args: []api.Plan{left.Plan, right.Plan}}, left.scope}
}

func (l *lowering) selected(s api.Select) relation {
	from := l.sources(s.From)
	for _, w := range s.Where {
		from.Plan = l.where(from, w)
	}
	var r relation
	if isGrouped(s) {
		r = l.grouped(s, from)
	} else {
		terms, told := l.items(s.Items, from.reader(), from.scope)
		r = relation{on(from.Plan, api.PlanProject, terms...), told}
	}
	if s.Distinct {
		r.Plan = on(r.Plan, api.PlanDistinct)
	}
	return r
}

// sources returns the plan of the sources of a select, joined from left to right.
func (l *lowering) sources(from []api.Source) relation {
	whole := l.source(from[0])
	for _, s := range from[1:] {
		op := api.PlanJoin
		if s.Kind == api.SourceLeft {
			op = api.PlanLeft
		}
		r := l.source(s)
		whole.scope = append(whole.scope, r.scope...)
		whole.Plan = api.Plan{Op: op, Args: []api.Plan{whole.Plan, r.Plan}, Terms: whole.reader().terms(s.On)}
	}
	return whole
}

func (l *lowering) source(s api.Source) relation {
	name := cmp.Or(s.As, s.Table)
	if len(s.Query) > 0 {
		r := l.query(s.Query[0])
		for i := range r.scope {
			r.scope[i].source = name
		}
		return r
	}
	r := relation{Plan: api.Plan{Op: api.PlanScan, Table: strings.Clone(s.Table)}}
	for _, t := range l.tables {
		if t.Name != s.Table {
			continue
		}
		for _, c := range t.Columns {
			r.scope = append(r.scope, column{name, c.Name})
		}
	}
	return r
}

// items returns the terms of the items of a select, and what their columns are called, given the columns that a star stands for.
func (l *lowering) items(items []api.Item, r reader, all scope) ([]api.Term, scope) {
	var terms []api.Term
	var told scope
	for _, i := range items {
		if !i.Star {
			terms = append(terms, r.term(i.Expr))
			told = append(told, column{name: cmp.Or(i.Name, i.Expr.Name)}) // only an expression that is a name has one
			continue
		}
		if l.left -= len(all); l.left < 0 {
			return nil, nil
		}
		for n, c := range all {
			terms = append(terms, toColumn(n))
			told = append(told, column{name: c.name})
		}
	}
	return terms, told
}
