package rules

import (
	"slices"
	"strings"

	"touchmark/api"
)

// independent returns a copy of a plan that shares no memory with it, and no two lists of which share any.
func independent(p api.Plan) api.Plan {
	p.Table = strings.Clone(p.Table)
	p.Args = each(p.Args, independent)
	p.Terms = each(p.Terms, independentTerm)
	p.Aggs = each(p.Aggs, func(a api.Agg) api.Agg {
		return api.Agg{Op: a.Op, Args: each(a.Args, independentTerm)}
	})
	p.Keys = slices.Clone(p.Keys)
	return p
}

func independentTerm(t api.Term) api.Term {
	t.Value.S = strings.Clone(t.Value.S)
	t.Args = each(t.Args, independentTerm)
	return t
}

// room is how many terms a plan can have. Where terms take the place of columns, there could be any number of them: more, of 72 bytes each, are beyond all the bytes that a result can have, where no result is better than no memory.
const room = (1<<31 - 1) / 72

// isLarge returns whether a plan, in which lists can be in several places, has more terms than there is room for.
func isLarge(p api.Plan) bool { return roomBeside(p, room) < 0 }

// roomBeside returns how much room is left beside a plan's terms, or a negative number.
func roomBeside(p api.Plan, left int) int {
	left = roomBesideTerms(p.Terms, left)
	for _, a := range p.Aggs {
		left = roomBesideTerms(a.Args, left)
	}
	for _, a := range p.Args {
		left = roomBeside(a, left)
	}
	return left
}

func roomBesideTerms(l []api.Term, left int) int {
	for _, t := range l {
		if left < 0 {
			break // all the others may be too many to be counted
		}
		left = roomBesideTerms(t.Args, left-1)
	}
	return left
}
