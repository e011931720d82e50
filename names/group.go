package names

import (
	"slices"

	"touchmark/api"
)

func isGrouped(s api.Select) bool {
	return len(s.Group) > 0 || len(s.Having) > 0 || haveAggregate(s.Items)
}

func haveAggregate(l []api.Item) bool {
	return slices.ContainsFunc(l, func(i api.Item) bool { return hasAggregate(i.Expr) })
}

func hasAggregate(x api.Expr) bool {
	return isAggregate(x.Op) || slices.ContainsFunc(x.Args, hasAggregate)
}

// group is the expressions of a grouped query's Group.
type group []api.Expr

// grouped returns the columns of a grouped query, or the first error of its items and of its Having.
func (s sight) grouped(q api.Select) ([]api.Column, api.Errno) {
	g := group(q.Group)
	l, e := s.items(q.Items, g.checked(s.summed), api.ErrGroup)
	if e != api.OK {
		return nil, e
	}
	if e := every(q.Having, g.checked(condition(s.summed))); e != api.OK {
		return nil, e
	}
	return l, api.OK
}

// checked makes a place one where an expression has one value for a whole group: that is asked behind its own errors.
func (g group) checked(at place) place {
	return func(x api.Expr) (shape, api.Errno) {
		is, e := at(x)
		if e == api.OK && !g.determines(x) {
			return shape{}, api.ErrGroup
		}
		return is, e
	}
}

// determines returns whether an expression has one value for a whole group.
func (g group) determines(x api.Expr) bool {
	if isAggregate(x.Op) || slices.ContainsFunc(g, func(y api.Expr) bool { return isSame(x, y) }) {
		return true
	}
	return x.Op != api.OpName && all(x.Args, g.determines)
}

// isSame returns whether two expressions are equal. Neither has a query in it: in Group, Items and Having that is an error, which is told first.
func isSame(a, b api.Expr) bool {
	return a.Op == b.Op && a.Table == b.Table && a.Name == b.Name && a.Value == b.Value && slices.EqualFunc(a.Args, b.Args, isSame)
}
