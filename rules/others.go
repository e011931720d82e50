package rules

import (
	"slices"

	"touchmark/api"
	"touchmark/plan"
	"touchmark/value"
)

func (tables) mergeProjects(p api.Plan) (api.Plan, bool) {
	inner := p.Args[0]
	terms := each(p.Terms, func(t api.Term) api.Term { return substituted(t, inner.Terms) })
	return with(inner, terms...), areQuiet(inner.Terms)
}

func (tables) dropOuter(p api.Plan) (api.Plan, bool) { return p.Args[0], true }

// fold replaces the first operation that can be computed ahead. A PlanSeek has none, and needs no case of its own.
func (t tables) fold(p api.Plan) (api.Plan, bool) {
	made, ok := folded(p)
	return made, ok && slices.Equal(t.kinds(p), t.kinds(made))
}

func (t tables) kinds(p api.Plan) []int {
	l, _ := plan.Check(t, p)
	return each(l, func(c api.Column) int { return c.Kind })
}

// folded returns a plan with the first operation of values in its own terms replaced by what it results in, or false if there is none.
func folded(p api.Plan) (api.Plan, bool) {
	if l, ok := foldedTerms(p.Terms); ok {
		return with(p, l...), true
	}
	for i, a := range p.Aggs {
		if l, ok := foldedTerms(a.Args); ok {
			p.Aggs = slices.Clone(p.Aggs)
			p.Aggs[i].Args = l
			return p, true
		}
	}
	return api.Plan{}, false
}

func foldedTerms(l []api.Term) ([]api.Term, bool) {
	for i, t := range l {
		if made, ok := foldedTerm(t); ok {
			l = slices.Clone(l)
			l[i] = made
			return l, true
		}
	}
	return nil, false
}

func foldedTerm(t api.Term) (api.Term, bool) {
	if l, ok := foldedTerms(t.Args); ok {
		t.Args = l
		return t, true
	}
	if len(t.Args) == 0 || !all(t.Args, func(a api.Term) bool { return a.Op == api.OpValue }) {
		return api.Term{}, false
	}
	var operands [2]api.Value
	for i, a := range t.Args {
		operands[i] = a.Value
	}
	v, e := value.Do(t.Op, operands[0], operands[1])
	return api.Term{Op: api.OpValue, Value: v}, e == api.OK
}
