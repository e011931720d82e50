package names

import (
	"slices"

	"touchmark/api"
)

// known is the tables that there are; the last ones are views.
type known struct {
	tables
	views int
}

// statement returns the first error of a well-formed statement. Those that are not listed have none.
func (k known) statement(s api.Statement) api.Errno {
	check, ok := map[int]func(api.Statement) api.Errno{
		api.DoQuery:  k.doQuery,
		api.DoTable:  k.doTable,
		api.DoView:   k.doView,
		api.DoInsert: k.doInsert,
		api.DoDelete: k.doDelete,
		api.DoUpdate: k.doUpdate,
	}[s.Op]
	if !ok {
		return api.OK
	}
	return check(s)
}

func (k known) doQuery(s api.Statement) api.Errno {
	_, e := k.query(s.Query)
	return e
}

func (k known) has(name string) bool {
	_, e := k.table(name)
	return e == api.OK
}

func (k known) doTable(s api.Statement) api.Errno {
	switch {
	case k.has(s.Table.Name):
		return api.ErrTwice
	case len(k.tables)-k.views >= api.MaxTables, len(s.Table.Columns) > api.MaxColumns:
		return api.ErrMany
	case repeat(s.Table.Columns, nameOf):
		return api.ErrTwice
	}
	return api.OK
}

func (k known) doView(s api.Statement) api.Errno {
	if k.has(s.Name) {
		return api.ErrTwice
	}
	if k.views >= api.MaxViews {
		return api.ErrMany
	}
	l, e := k.query(s.Query)
	if e == api.OK {
		e = viewed(l)
	}
	if e == api.OK && !Keeps(s.Query) {
		return api.ErrView
	}
	return e
}

// viewed returns the first reason why columns can't be a view's.
func viewed(l []api.Column) api.Errno {
	switch {
	case len(l) > api.MaxColumns:
		return api.ErrMany
	case slices.ContainsFunc(l, func(c api.Column) bool { return c.Name == "" }):
		return api.ErrName
	case repeat(l, nameOf):
		return api.ErrTwice
	case slices.ContainsFunc(l, func(c api.Column) bool { return c.Kind == api.Null }):
		return api.ErrKind
	}
	return api.OK
}

// changeable returns the table with a name: ErrPlace if it is a view.
func (k known) changeable(name string) (api.Table, api.Errno) {
	i := slices.IndexFunc(k.tables, func(x api.Table) bool { return x.Name == name })
	switch {
	case i < 0:
		return api.Table{}, api.ErrName
	case i >= len(k.tables)-k.views:
		return api.Table{}, api.ErrPlace
	}
	return k.tables[i], api.OK
}

func (k known) doInsert(s api.Statement) api.Errno {
	x, e := k.changeable(s.Name)
	if e != api.OK {
		return e
	}
	for _, r := range s.Rows {
		if len(r) != len(x.Columns) {
			return api.ErrCount
		}
		for i, y := range r {
			if e := stored(x.Columns[i], y, sight{}.plain); e != api.OK {
				return e
			}
		}
	}
	return api.OK
}

// stored returns the first error of an expression, at a given place, whose value a column gets.
func stored(c api.Column, x api.Expr, at place) api.Errno {
	is, e := at(x)
	if e == api.OK && !agree(is.kind, c.Kind) {
		return api.ErrKind
	}
	return e
}

// over returns what expressions over a table's rows can refer to.
func over(x api.Table) sight {
	own := make(scope, len(x.Columns))
	for i, c := range x.Columns {
		own[i] = column{x.Name, c}
	}
	return sight{own: own}
}

func (k known) doDelete(s api.Statement) api.Errno {
	x, e := k.changeable(s.Name)
	if e != api.OK {
		return e
	}
	return every(s.Where, condition(over(x).plain))
}

func (k known) doUpdate(s api.Statement) api.Errno {
	x, e := k.changeable(s.Name)
	if e != api.OK {
		return e
	}
	here := over(x)
	for i, set := range s.Sets {
		c, e := only(x.Columns, func(c api.Column) bool { return c.Name == set.Name })
		if e != api.OK {
			return e
		}
		if slices.ContainsFunc(s.Sets[:i], func(y api.Set) bool { return y.Name == set.Name }) {
			return api.ErrTwice
		}
		if e := stored(c, set.Expr, here.plain); e != api.OK {
			return e
		}
	}
	return every(s.Where, condition(here.plain))
}
