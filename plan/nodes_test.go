package plan_test

import (
	"reflect"
	"testing"

	"touchmark/api"
	"touchmark/plan"
)

// P13.3: the plans in a plan, wherever they are, itself among them.
func TestNodes(t *testing.T) {
	join := two(api.PlanJoin, scan("t"), scan("u"), truth(1))
	for i, c := range []struct {
		p api.Plan
		n int
	}{
		{api.Plan{}, 1}, {scan("t"), 1}, {project(scan("t"), col(0), negated(col(0), 9)), 2}, {join, 3}, {two(api.PlanUnion, join, two(api.PlanSemi, scan("t"), join, null())), 9}, {wrapped(scan("t"), 100), 101},
		{limit(sorted(group(join, []api.Term{col(0)}, agg(api.OpSum, col(0))), 0), 3), 6}, {api.Plan{Op: 99, Args: []api.Plan{{}, {}, join, {Args: []api.Plan{{}}}}}, 8},
	} {
		if n := plan.Nodes(c.p); n != c.n {
			t.Errorf("plan %d: %d, not %d", i, n, c.n)
		}
	}
}

// different is plans of which no two agree in all fields.
func different() []api.Plan {
	t, u := scan("t"), scan("u")
	down := sorted(t, 0)
	down.Keys[0].Down = true
	return []api.Plan{
		{}, {Op: api.PlanScan}, t, u, {Op: api.PlanSeek, Table: "t"}, {Op: api.PlanScan, N: 1}, {Op: api.PlanScan, N: -1}, {Table: "t"}, {N: 1},
		one(api.PlanDistinct, t), one(api.PlanDistinct, u), wrapped(t, 2), two(api.PlanDistinct, t, t), two(api.PlanDistinct, t, u), two(api.PlanDistinct, u, t), one(api.PlanScan, t),
		project(t), project(t, col(0)), project(t, col(1)), project(t, col(0), col(0)), project(t, null()), project(t, api.Term{}), project(t, op(api.OpNeg, col(0))), project(t, op(api.OpNeg, col(1))), project(t, op(api.OpNeg, col(0), col(0))), project(t, op(api.OpNot, col(0))), project(t, negated(col(0), 2)), project(t, api.Term{Op: api.OpNeg, Col: 1, Args: []api.Term{col(0)}}),
		project(t, num(1)), project(t, num(2)), project(t, truth(1)), project(t, text("")), project(t, text("x")), project(t, val(api.Value{Kind: api.Int, N: 1, S: "x"})), project(t, val(api.Value{N: 1})), project(t, op(api.OpAdd, num(1), num(2))), project(t, op(api.OpAdd, num(2), num(1))),
		group(t, nil), group(t, nil, agg(api.OpCountAll)), group(t, nil, agg(api.OpCount)), group(t, nil, agg(api.OpCount, col(0))), group(t, nil, agg(api.OpCount, col(1))), group(t, nil, agg(api.OpSum, col(0))), group(t, nil, agg(api.OpCount, col(0), col(0))), group(t, nil, agg(api.OpCountAll), agg(api.OpCountAll)), group(t, []api.Term{col(0)}), group(t, []api.Term{col(0)}, agg(api.OpCountAll)),
		sorted(t), sorted(t, 0), down, sorted(t, 1), sorted(t, 0, 0), sorted(t, 0, 1), sorted(t, 1, 0), sorted(u, 0), limit(t, 1), limit(t, 2), limit(t, 0),
	}
}

// P13.3: plans are the same if they agree in all fields, at any depth.
func TestSame(t *testing.T) {
	around := []func(api.Plan) api.Plan{
		func(p api.Plan) api.Plan { return p }, func(p api.Plan) api.Plan { return wrapped(p, 3) }, func(p api.Plan) api.Plan { return two(api.PlanJoin, p, scan("t"), null()) }, func(p api.Plan) api.Plan { return two(api.PlanUnion, scan("t"), one(0, p, col(1))) },
	}
	for i, a := range different() {
		for j, b := range different() {
			for k, f := range around {
				if plan.Same(f(a), f(b)) != (i == j) {
					t.Errorf("plans %d and %d in %d: %t", i, j, k, i != j)
				}
			}
		}
	}
	if !plan.Same(api.Plan{}, api.Plan{Args: []api.Plan{}, Terms: []api.Term{}, Aggs: []api.Agg{}, Keys: []api.Key{}}) {
		t.Error("an empty list is not the same as none")
	}
	a, b := project(scan("t"), api.Term{Op: api.OpColumn, Args: []api.Term{}}), project(scan("t"), col(0))
	if !plan.Same(a, b) || !plan.Same(b, a) {
		t.Error("an empty list in a term is not the same as none")
	}
}

// P13.3: plans put together by chance, against their parts, walked through by their types.
func TestNodesAndSameByChance(t *testing.T) {
	same := 0
	for seed := range 10000 {
		m := newMaker(int64(seed))
		m.spoil = pick(m, 0, 20)
		a := m.wholePlan()
		b := tidy(a)
		for m.Intn(3) > 0 {
			b = change(m, b)
		}
		n := 0
		walk(reflect.ValueOf(&b).Elem(), func(part any) {
			if _, ok := part.(*api.Plan); ok {
				n++
			}
		})
		want := samePlan(a, b)
		if plan.Nodes(b) != n || plan.Same(a, b) != want || plan.Same(b, a) != want || !plan.Same(b, tidy(b)) {
			t.Fatalf("seed %d: %d, not %d; %t, not %t: %+v, %+v", seed, plan.Nodes(b), n, plan.Same(a, b), want, a, b)
		}
		if want {
			same++
		}
	}
	if same < 1000 || same > 9000 {
		t.Errorf("%d are the same", same)
	}
}
