package plan

import (
	"slices"

	"touchmark/api"
)

// isDeep returns whether more plans and terms than may be are nested in a plan, given how many are around it.
func isDeep(p api.Plan, around int) bool {
	if isTooMany(around + 1) {
		return true
	}
	deepTerm := func(t api.Term) bool { return isDeepTerm(t, around+1) }
	return slices.ContainsFunc(p.Args, func(a api.Plan) bool { return isDeep(a, around+1) }) ||
		slices.ContainsFunc(p.Terms, deepTerm) ||
		slices.ContainsFunc(p.Aggs, func(a api.Agg) bool { return slices.ContainsFunc(a.Args, deepTerm) })
}

func isDeepTerm(t api.Term, around int) bool {
	return isTooMany(around+1) ||
		slices.ContainsFunc(t.Args, func(a api.Term) bool { return isDeepTerm(a, around+1) })
}

func isTooMany(nested int) bool { return nested > 2*api.MaxDepth }
