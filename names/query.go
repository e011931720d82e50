package names

import (
	"cmp"

	"touchmark/api"
)

// query returns the columns of a well-formed query, or its first error.
func (t tables) query(q api.Query) ([]api.Column, api.Errno) {
	l, e := t.body(q)
	if e == api.OK {
		e = ordered(q, l)
	}
	if e != api.OK {
		return nil, e
	}
	return l, api.OK
}

// body returns the columns of a query whatever its order is.
func (t tables) body(q api.Query) ([]api.Column, api.Errno) {
	if q.Op == api.QuerySelect {
		return t.selected(q.Select)
	}
	left, e := t.query(q.Parts[0])
	if e != api.OK {
		return nil, e
	}
	right, e := t.query(q.Parts[1])
	if e != api.OK {
		return nil, e
	}
	return united(left, right)
}

// united returns the columns of two parts together, in the place of the left one's.
func united(left, right []api.Column) ([]api.Column, api.Errno) {
	if len(left) != len(right) {
		return nil, api.ErrCount
	}
	for i, c := range right {
		if !agree(left[i].Kind, c.Kind) {
			return nil, api.ErrKind
		}
		if left[i].Kind == api.Null {
			left[i].Kind = c.Kind
		}
		left[i].Nullable = left[i].Nullable || c.Nullable
	}
	return left, api.OK
}

// ordered returns the first error of a query's order, given its columns.
func ordered(q api.Query, columns []api.Column) api.Errno {
	for _, o := range q.Order {
		if o.Expr.Op != api.OpName || o.Expr.Table != "" {
			return api.ErrPlace
		}
		if _, e := only(columns, func(c api.Column) bool { return c.Name == o.Expr.Name }); e != api.OK {
			return e
		}
	}
	if q.Limited && len(q.Order) == 0 {
		return api.ErrLimit
	}
	return api.OK
}

func (t tables) selected(s api.Select) ([]api.Column, api.Errno) {
	all, e := t.scope(s.From)
	if e != api.OK {
		return nil, e
	}
	here := sight{tables: t, own: all}
	if e := every(s.Where, here.where); e != api.OK {
		return nil, e
	}
	if e := every(s.Group, here.plain); e != api.OK {
		return nil, e
	}
	if isGrouped(s) {
		return here.grouped(s)
	}
	return here.items(s.Items, here.summed, api.OK)
}

// items returns the columns that the items of a select are, or their first error, given the place of their expressions and a star's error.
func (s sight) items(l []api.Item, at place, star api.Errno) ([]api.Column, api.Errno) {
	shapes := make([]shape, len(l))
	n := 0
	for i, x := range l {
		e := star
		if x.Star {
			n += len(s.own)
		} else {
			shapes[i], e = at(x.Expr)
			n++
		}
		if e != api.OK {
			return nil, e
		}
	}
	if n > room {
		return nil, api.ErrMany
	}
	columns := make([]api.Column, 0, n)
	for i, x := range l {
		columns = s.told(columns, x, shapes[i])
	}
	return columns, api.OK
}

// told returns columns with those of one more item, given its expression's shape.
func (s sight) told(columns []api.Column, i api.Item, is shape) []api.Column {
	if !i.Star {
		name := cmp.Or(i.Name, i.Expr.Name) // only an expression that is a name has one
		return append(columns, api.Column{Name: name, Kind: is.kind, Nullable: is.nullable})
	}
	for _, c := range s.own {
		columns = append(columns, c.Column)
	}
	return columns
}
