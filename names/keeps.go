package names

import "touchmark/api"

// Keeps returns whether a query has nothing that keeps it from being a view's.
func Keeps(q api.Query) bool {
	s := q.Select
	return len(q.Order) == 0 && !q.Limited && q.Op != api.QueryExcept && !s.Distinct &&
		all(q.Parts, Keeps) && all(s.Items, keepsItem) && all(s.From, keepsSource) &&
		all(s.Where, keepsExpr) && all(s.Group, keepsExpr) && all(s.Having, keepsExpr)
}

func keepsItem(i api.Item) bool { return keepsExpr(i.Expr) }

func keepsSource(s api.Source) bool {
	return all(s.Query, Keeps) && all(s.On, keepsExpr)
}

func keepsExpr(x api.Expr) bool {
	return !hasQuery(x.Op) && len(x.Query) == 0 && all(x.Args, keepsExpr)
}
