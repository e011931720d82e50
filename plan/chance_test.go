package plan_test

import (
	"reflect"
	"slices"
	"testing"

	"touchmark/api"
	"touchmark/names"
	"touchmark/plan"
	"touchmark/print"
)

// wantEnough asks for enough cases of each error, without which a test would tell little.
func wantEnough(t *testing.T, n map[api.Errno]int, each int, l ...api.Errno) {
	t.Helper()
	for _, e := range l {
		if n[e] < each {
			t.Errorf("error %d: %d cases alone", e, n[e])
		}
	}
	t.Logf("%v", n)
}

func samePlan(a, b api.Plan) bool { return reflect.DeepEqual(tidy(a), tidy(b)) }

// asksForNothing returns whether some group of a plan has neither Terms nor Aggs.
func asksForNothing(p api.Plan) bool {
	return p.Op == api.PlanGroup && len(p.Terms)+len(p.Aggs) == 0 || slices.ContainsFunc(p.Args, asksForNothing)
}

// P13.1, P13.4: queries put together by chance, against the model; their plans have the columns of names.Query.
func TestQueriesByChance(t *testing.T) {
	n, kinds := map[api.Errno]int{}, map[int]int{}
	for seed := range 20000 {
		m := newMaker(int64(seed))
		m.spoil = pick(m, 0, 0, 0, 100)
		q := m.whole()
		for m.spoil > 0 && m.maybe() {
			q = graft[api.Expr](m, q)
		}
		got, e := plan.Lower(m.tables, q)
		want, f := modelLower(m.tables, q)
		n[e]++
		if e != f || !samePlan(got, want) {
			text, _ := print.Query(q)
			t.Fatalf("seed %d: %s over %+v:\n%s, %d, not\n%s, %d", seed, text, m.tables, tell(got), e, tell(want), f)
		}
		if e == api.OK {
			wantSameColumns(t, m.tables, q, got)
			walk(reflect.ValueOf(&got).Elem(), func(part any) {
				if p, ok := part.(*api.Plan); ok {
					kinds[p.Op]++
				}
			})
		}
	}
	wantEnough(t, n, 50, api.OK, api.ErrName, api.ErrKind)
	for _, k := range []int{api.PlanScan, api.PlanSelect, api.PlanProject, api.PlanJoin, api.PlanLeft, api.PlanSemi, api.PlanAnti, api.PlanGroup, api.PlanUnion, api.PlanExcept, api.PlanDistinct, api.PlanSort, api.PlanLimit} {
		if kinds[k] < 100 {
			t.Errorf("plans %d: %d alone", k, kinds[k])
		}
	}
}

// wantSameColumns asks Check of a query's plan for the kinds of the query's columns.
func wantSameColumns(t *testing.T, tables []api.Table, q api.Query, p api.Plan) {
	t.Helper()
	want, _ := names.Query(tables, q)
	got, e := plan.Check(tables, p)
	if asksForNothing(p) {
		if e != api.ErrForm {
			t.Fatalf("%s: %d", tell(p), e)
		}
		return
	}
	if e != api.OK || !slices.EqualFunc(got, want, func(a, b api.Column) bool { return a.Kind == b.Kind && a.Nullable == b.Nullable }) {
		t.Fatalf("%s over %+v: %s, %d, not %s", tell(p), tables, columnsOf(got), e, columnsOf(want))
	}
}

// P13.2: plans put together by chance, with parts put elsewhere and others changed, against the model.
func TestPlansByChance(t *testing.T) {
	n, kinds := map[api.Errno]int{}, map[int]int{}
	for seed := range 40000 {
		m := newMaker(int64(seed))
		m.spoil = pick(m, 0, 200, 60, 20)
		p := m.wholePlan()
		for m.spoil > 0 && m.maybe() {
			switch m.Intn(5) {
			case 0:
				p = graft[api.Plan](m, p)
			case 1:
				p = graft[api.Term](m, p)
			default:
				p = change(m, p)
			}
		}
		got, e := plan.Check(m.tables, p)
		want, f := modelCheck(m.tables, p)
		n[e]++
		if e != f || !slices.Equal(got, want) {
			t.Fatalf("seed %d: %+v over %+v: %s, %d, not %s, %d", seed, p, m.tables, columnsOf(got), e, columnsOf(want), f)
		}
		if e == api.OK {
			kinds[p.Op]++
		}
	}
	wantEnough(t, n, 200, api.OK, api.ErrForm, api.ErrName, api.ErrPlace, api.ErrRange, api.ErrKind, api.ErrCount)
	for k := api.PlanScan; k <= api.PlanLimit; k++ {
		if kinds[k] < 200 {
			t.Errorf("plans %d: %d alone without an error", k, kinds[k])
		}
	}
}

// P13.1, P13.2: queries and plans over the plans of others, put together by chance until they are too deep.
func TestDepthByChance(t *testing.T) {
	n := map[api.Errno]int{}
	for seed := range 1500 {
		m := newMaker(int64(seed))
		p := m.wholePlan()
		for range 6 {
			p = deepen(m, p)
		}
		got, e := plan.Check(m.tables, p)
		want, f := modelCheck(m.tables, p)
		n[e]++
		if e != f || !slices.Equal(got, want) {
			t.Fatalf("seed %d: %+v: %s, %d, not %s, %d", seed, p, columnsOf(got), e, columnsOf(want), f)
		}
	}
	wantEnough(t, n, 200, api.OK, api.ErrDeep)
}

// deepen puts more around some part of a plan.
func deepen(m *maker, p api.Plan) api.Plan {
	p = tidy(p)
	var plans []*api.Plan
	var terms []*api.Term
	walk(reflect.ValueOf(&p).Elem(), func(part any) {
		switch x := part.(type) {
		case *api.Plan:
			if x.Op != api.PlanSort && x.Op != api.PlanLimit {
				plans = append(plans, x)
			}
		case *api.Term:
			terms = append(terms, x)
		}
	})
	if len(terms) == 0 || m.maybe() {
		x := pick(m, plans...)
		*x = wrapped(*x, m.Intn(16))
		return p
	}
	x := pick(m, terms...)
	for range m.Intn(16) {
		*x = op(api.OpIsNull, *x)
	}
	return p
}
