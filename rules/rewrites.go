package rules

import (
	"slices"

	"touchmark/api"
	"touchmark/plan"
)

// rewrite returns what replaces a plan in which plan.Check finds no error. If it returns false, the plan cannot be replaced, and what is beside that has no meaning. The lists in what it returns can be the plan's, or each other's.
type rewrite func(p api.Plan) (api.Plan, bool)

// tables are those that plans name.
type tables []api.Table

// rewrites returns the rules by their numbers.
func rewrites(t tables) [20]rewrite {
	// of makes the rule of plans with an Op; where others are listed, the first plan within has one of these.
	of := func(op int, replacement func(tables, api.Plan) (api.Plan, bool), inner ...int) rewrite {
		return func(p api.Plan) (api.Plan, bool) {
			if p.Op != op || len(inner) > 0 && !slices.Contains(inner, p.Args[0].Op) {
				return api.Plan{}, false
			}
			return replacement(t, p)
		}
	}
	return [...]rewrite{
		0:  of(api.PlanSelect, tables.merge, api.PlanSelect),
		1:  of(api.PlanSelect, tables.split),
		2:  of(api.PlanSelect, tables.selectInProject, api.PlanProject),
		3:  of(api.PlanSelect, tables.merge, api.PlanJoin),
		4:  of(api.PlanJoin, tables.split),
		5:  of(api.PlanJoin, tables.joinToLeft),
		6:  of(api.PlanJoin, tables.joinToRight),
		7:  of(api.PlanJoin, tables.exchangeJoin),
		8:  of(api.PlanJoin, tables.rotateJoins, api.PlanJoin),
		9:  of(api.PlanSelect, tables.selectInLeftOf, api.PlanLeft),
		10: of(api.PlanSelect, tables.leftToJoin, api.PlanLeft),
		11: of(api.PlanSelect, tables.selectInBoth, api.PlanUnion, api.PlanExcept),
		12: of(api.PlanSelect, tables.selectInDistinct, api.PlanDistinct),
		13: of(api.PlanSelect, tables.selectInGroup, api.PlanGroup),
		14: of(api.PlanProject, tables.mergeProjects, api.PlanProject),
		15: of(api.PlanDistinct, tables.dropOuter, api.PlanDistinct, api.PlanGroup),
		16: of(api.PlanSelect, tables.dropSelect),
		17: of(api.PlanSelect, tables.selectInLeftOf, api.PlanSemi, api.PlanAnti),
		18: of(api.PlanSelect, tables.scanToSeek, api.PlanScan),
		19: func(p api.Plan) (api.Plan, bool) { return t.fold(p) },
	}
}

// width returns how many columns a plan has.
func (t tables) width(p api.Plan) int {
	l, _ := plan.Check(t, p)
	return len(l)
}

// within returns a plan with others in it.
func within(p api.Plan, args ...api.Plan) api.Plan {
	p.Args = args
	return p
}

// with returns a plan with other terms.
func with(p api.Plan, terms ...api.Term) api.Plan {
	p.Terms = terms
	return p
}

func choose(t api.Term, p api.Plan) api.Plan {
	return api.Plan{Op: api.PlanSelect, Args: []api.Plan{p}, Terms: []api.Term{t}}
}

func both(p, q api.Term) api.Term {
	return api.Term{Op: api.OpAnd, Args: []api.Term{p, q}}
}

// halves returns the operands of an OpAnd, or false for other terms.
func halves(t api.Term) (p, q api.Term, ok bool) {
	if t.Op != api.OpAnd {
		return p, q, false
	}
	return t.Args[0], t.Args[1], true
}

func truth() api.Value { return api.Value{Kind: api.Bool, N: 1} }
