package rules

import "touchmark/api"

func (t tables) joinToLeft(j api.Plan) (api.Plan, bool) {
	p, q, ok := halves(j.Terms[0])
	x, y := j.Args[0], j.Args[1]
	made := within(with(j, q), choose(p, x), y)
	return made, ok && Quiet(p) && Quiet(q) && refersOnly(p, 0, t.width(x))
}

func (t tables) joinToRight(j api.Plan) (api.Plan, bool) {
	p, q, ok := halves(j.Terms[0])
	x, y := j.Args[0], j.Args[1]
	w := t.width(x)
	made := within(with(j, q), x, choose(renumbered(p, func(i int) int { return i - w }), y))
	return made, ok && Quiet(p) && Quiet(q) && refersOnly(p, w, w+t.width(y))
}

func (t tables) exchangeJoin(j api.Plan) (api.Plan, bool) {
	x, y := j.Args[0], j.Args[1]
	right := t.width(y)
	n := t.width(x) + right
	number := func(i int) int { return (i + right) % n } // of the same column, with those of y first
	made := within(with(j, renumbered(j.Terms[0], number)), y, x)
	order := make([]api.Term, n)
	for i := range order {
		order[i] = api.Term{Op: api.OpColumn, Col: number(i)}
	}
	return api.Plan{Op: api.PlanProject, Args: []api.Plan{made}, Terms: order}, true
}

func (tables) rotateJoins(j api.Plan) (api.Plan, bool) {
	p, inner, z := j.Terms[0], j.Args[0], j.Args[1]
	q, x, y := inner.Terms[0], inner.Args[0], inner.Args[1]
	right := within(with(inner, api.Term{Op: api.OpValue, Value: truth()}), y, z)
	return within(with(j, both(q, p)), x, right), Quiet(p) && Quiet(q)
}
