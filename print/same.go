package print

import (
	"slices"

	"touchmark/api"
)

// Same returns whether two queries agree in all their fields.
func Same(a, b api.Query) bool {
	return a.Op == b.Op && a.Limited == b.Limited && a.Limit == b.Limit &&
		slices.EqualFunc(a.Parts, b.Parts, Same) &&
		sameSelect(a.Select, b.Select) &&
		slices.EqualFunc(a.Order, b.Order, sameOrder)
}

func sameSelect(a, b api.Select) bool {
	return a.Distinct == b.Distinct &&
		slices.EqualFunc(a.Items, b.Items, sameItem) &&
		slices.EqualFunc(a.From, b.From, sameSource) &&
		sameExprs(a.Where, b.Where) && sameExprs(a.Group, b.Group) && sameExprs(a.Having, b.Having)
}

func sameItem(a, b api.Item) bool {
	return a.Star == b.Star && a.Name == b.Name && sameExpr(a.Expr, b.Expr)
}

func sameSource(a, b api.Source) bool {
	return a.Kind == b.Kind && a.Table == b.Table && a.As == b.As &&
		slices.EqualFunc(a.Query, b.Query, Same) && sameExprs(a.On, b.On)
}

func sameOrder(a, b api.Order) bool {
	return a.Down == b.Down && sameExpr(a.Expr, b.Expr)
}

func sameExprs(a, b []api.Expr) bool {
	return slices.EqualFunc(a, b, sameExpr)
}

func sameExpr(a, b api.Expr) bool {
	return a.Op == b.Op && a.Table == b.Table && a.Name == b.Name && a.Value == b.Value &&
		sameExprs(a.Args, b.Args) && slices.EqualFunc(a.Query, b.Query, Same)
}
