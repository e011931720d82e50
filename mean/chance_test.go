package mean_test

import (
	"reflect"
	"testing"

	"touchmark/api"
	"touchmark/mean"
	"touchmark/plan"
)

// P14.3: plans put together by chance, over states made by chance, against the model.
func TestPlansByChance(t *testing.T) {
	n, kinds := map[api.Errno]int{}, map[int]int{}
	for seed := range 25000 {
		m := newMaker(int64(seed))
		p := m.plan()
		if columns, e := plan.Check(m.state.Tables, p); e != api.OK {
			t.Fatalf("seed %d: %+v: %v, %d", seed, p, columns, e)
		}
		got, e := mean.Run(m.state, p)
		want, f := modelRun(m.state, p)
		n[e]++
		if told(got, e) != told(want, f) {
			t.Fatalf("seed %d: %+v over %+v:\n%s, not\n%s", seed, p, m.state, told(got, e), told(want, f))
		}
		if len(got) > 1 {
			walk(reflect.ValueOf(&p).Elem(), func(v reflect.Value) {
				if p, ok := v.Interface().(api.Plan); ok {
					kinds[p.Op]++
				}
			})
		}
	}
	wantEnough(t, n, 300, api.OK, api.ErrOverflow, api.ErrDivide)
	for k := api.PlanScan; k <= api.PlanLimit; k++ {
		if kinds[k] < 300 {
			t.Errorf("plans %d: %d alone with rows", k, kinds[k])
		}
	}
}

// P14.3: plans that are spoilt: the error is that of plan.Check, or else what the model says.
func TestSpoiltPlansByChance(t *testing.T) {
	n := map[api.Errno]int{}
	for seed := range 15000 {
		m := newMaker(int64(seed))
		m.spoil = pick(m, 0, 30)
		p := m.plan()
		for m.maybe() {
			p = change(m, p)
		}
		got, e := mean.Run(m.state, p)
		n[e]++
		want, f := []api.Row(nil), api.OK
		if _, f = plan.Check(m.state.Tables, p); f == api.OK {
			want, f = modelRun(m.state, p)
		}
		if told(got, e) != told(want, f) {
			t.Fatalf("seed %d: %+v over %+v:\n%s, not\n%s", seed, p, m.state, told(got, e), told(want, f))
		}
	}
	wantEnough(t, n, 50, api.OK, api.ErrForm, api.ErrName, api.ErrRange, api.ErrKind, api.ErrOverflow, api.ErrDivide)
}

// P14.1, P14.3: states in which something is changed, against the model; Run has ErrArg for those that are not valid, and for no others.
func TestStatesByChance(t *testing.T) {
	valid, n := 0, 20000
	for seed := range n {
		m := newMaker(int64(seed))
		s, p := m.state, m.plan()
		for range m.Intn(3) {
			s = change(m, s)
		}
		want := modelMay(s)
		if mean.May(s) != want {
			t.Fatalf("seed %d: %+v: %t", seed, s, !want)
		}
		if rows, e := mean.Run(s, p); (e == api.ErrArg) == want || e != api.OK && rows != nil {
			t.Fatalf("seed %d: %+v: %d", seed, s, e)
		}
		if want {
			valid++
		}
	}
	if valid < n/10 || valid > n*9/10 {
		t.Errorf("%d of %d states are valid", valid, n)
	}
}
