package plan

import (
	"slices"

	"touchmark/api"
)

// Same returns whether two plans agree in all fields, at any depth.
func Same(a, b api.Plan) bool {
	return a.Op == b.Op && a.Table == b.Table && a.N == b.N &&
		slices.Equal(a.Keys, b.Keys) &&
		slices.EqualFunc(a.Terms, b.Terms, areSameTerms) &&
		slices.EqualFunc(a.Aggs, b.Aggs, areSameAggs) &&
		slices.EqualFunc(a.Args, b.Args, Same)
}

func areSameTerms(a, b api.Term) bool {
	return a.Op == b.Op && a.Col == b.Col && a.Value == b.Value && slices.EqualFunc(a.Args, b.Args, areSameTerms)
}

func areSameAggs(a, b api.Agg) bool {
	return a.Op == b.Op && slices.EqualFunc(a.Args, b.Args, areSameTerms)
}
