package names

import (
	"cmp"
	"slices"

	"touchmark/api"
)

// room is how many columns a query and its scope can have. Stars of stars could ask for any number: where the lists would go beyond all the bytes for which something is promised, ErrMany is better than no memory.
const room = 1 << 24

// column is a column of a scope.
type column struct {
	source string
	api.Column
}

type scope []column

// scope returns the columns of the sources of a select, or the first error of the sources.
func (t tables) scope(from []api.Source) (scope, api.Errno) {
	var whole scope
	for _, s := range from {
		columns, e := t.source(s)
		if e != api.OK {
			return nil, e
		}
		name := cmp.Or(s.As, s.Table)
		if slices.ContainsFunc(whole, func(c column) bool { return c.source == name }) {
			return nil, api.ErrTwice
		}
		if len(whole)+len(columns) > room {
			return nil, api.ErrMany
		}
		whole = slices.Grow(whole, len(columns))
		for _, c := range columns {
			c.Nullable = c.Nullable || s.Kind == api.SourceLeft
			whole = append(whole, column{name, c})
		}
		here := sight{own: whole.cut()}
		if e := every(s.On, condition(here.plain)); e != api.OK {
			return nil, e
		}
	}
	return whole.cut(), api.OK
}

// cut returns a scope as it is now: what comes behind it later is out of its reach.
func (s scope) cut() scope { return s[:len(s):len(s)] }

// source returns the columns of a source, as they are in it.
func (t tables) source(s api.Source) ([]api.Column, api.Errno) {
	if len(s.Query) > 0 {
		return t.query(s.Query[0])
	}
	x, e := t.table(s.Table)
	return x.Columns, e
}

// sight is what the names of an expression can refer to: the columns of its own scope, and those of the scope around its query if that is one of exists or in.
type sight struct {
	tables
	own, around scope
}

func (s sight) name(x api.Expr) (shape, api.Errno) {
	fits := func(c column) bool {
		return c.Name == x.Name && (x.Table == "" || c.source == x.Table)
	}
	c, e := only(s.own, fits)
	if e == api.ErrName {
		c, e = only(s.around, fits)
	}
	return shape{c.Kind, c.Nullable}, e
}
