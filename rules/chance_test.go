package rules_test

import (
	"slices"
	"strconv"
	"strings"
	"testing"

	"touchmark/api"
	"touchmark/mean"
	"touchmark/plan"
	"touchmark/rules"
)

// P15.2: all rules at all places of plans put together by chance, against the model.
func TestPlansByChance(t *testing.T) {
	t.Parallel()
	var applied, not [20]int
	for seed := range 4000 {
		m := newMaker(int64(seed))
		p := m.plan(seed % 20)
		whole := read(tell(p))
		n := plan.Nodes(p)
		for _, at := range []int{0, 1, m.Intn(n)} {
			for rule := range 20 {
				made, ok := rules.Apply(m.state.Tables, p, rule, at)
				want := modelApply(m.state.Tables, whole, rule, at)
				if !ok && (want != "" || !plan.Same(made, api.Plan{})) || ok && tell(made) != want {
					t.Fatalf("seed %d: rule %d at %d of %s over %+v:\n%s, %t, not\n%s", seed, rule, at, tell(p), m.state.Tables, tell(made), ok, want)
				}
				if ok {
					applied[rule]++
				} else if fits(table[rule], whole, at) {
					not[rule]++
				}
			}
		}
	}
	wantEnough(t, "plans", applied, 50)
	wantEnough(t, "plans that a condition alone keeps", not, 20, 3, 7, 11, 15, 16)
}

// fits returns whether a plan is one that the table shows, whatever the condition is.
func fits(l []row, p tree, at int) bool {
	ok := false
	numbered(p, at, func(x tree) tree {
		for _, r := range l {
			m := parts{nil, map[string]tree{}}
			ok = ok || m.match(r.of, x)
		}
		return x
	})
	return ok
}

// P15.2: plans in which something is changed: where plan.Check finds an error, no rule applies.
func TestSpoiltPlansByChance(t *testing.T) {
	t.Parallel()
	spoilt := 0
	for seed := range 1500 {
		m := newMaker(int64(seed))
		p := change(m, m.plan(seed%20))
		_, e := plan.Check(m.state.Tables, p)
		if e != api.OK {
			spoilt++
		}
		for at := range 3 {
			for rule := range 20 {
				made, ok := rules.Apply(m.state.Tables, p, rule, at)
				want := ""
				if e == api.OK {
					want = modelApply(m.state.Tables, read(tell(p)), rule, at)
				}
				if !ok && (want != "" || !plan.Same(made, api.Plan{})) || ok && tell(made) != want {
					t.Fatalf("seed %d: rule %d at %d of %+v over %+v: %+v, %t, not %s", seed, rule, at, p, m.state.Tables, made, ok, want)
				}
			}
		}
	}
	if spoilt < 400 || spoilt > 1300 {
		t.Errorf("%d plans are spoilt", spoilt)
	}
}

// wantEnough asks for enough cases of each rule but some, without which a test would tell little.
func wantEnough(t *testing.T, what string, n [20]int, least int, but ...int) {
	t.Helper()
	for rule, k := range n {
		if k < least && !slices.Contains(but, rule) {
			t.Errorf("rule %d: %d %s alone", rule, k, what)
		}
	}
	t.Logf("%v %s", n, what)
}

// told writes what mean.Run returned.
func told(rows []api.Row, e api.Errno) string {
	if e != api.OK {
		return "error " + strconv.Itoa(int(e))
	}
	var l []string
	for _, r := range rows {
		l = append(l, strings.Join(list(r, tellValue), " "))
	}
	return strings.Join(l, "; ")
}

// kindsOf returns the kinds of a plan's columns.
func kindsOf(t *testing.T, tables []api.Table, p api.Plan) []int {
	t.Helper()
	l, e := plan.Check(tables, p)
	if e != api.OK {
		t.Fatalf("%s: %d", tell(p), e)
	}
	var kinds []int
	for _, c := range l {
		kinds = append(kinds, c.Kind)
	}
	return kinds
}

// P15.3: what rules make of plans denotes the same, and has columns of the same kinds.
func TestSameDenotationByChance(t *testing.T) {
	t.Parallel()
	var withRows, failing [20]int
	for seed := range 40000 {
		m := newMaker(int64(seed))
		p := m.plan(seed % 20)
		for i := range 4 {
			rule := seed % 20
			if i > 1 {
				rule = m.Intn(20)
			}
			made, ok := rules.Apply(m.state.Tables, p, rule, i%2)
			if !ok {
				continue
			}
			switch after := wantSame(t, m.state, p, made); {
			case strings.HasPrefix(after, "error"):
				failing[rule]++
			case after != "":
				withRows[rule]++
			}
		}
	}
	wantEnough(t, "plans with rows", withRows, 40)
	wantEnough(t, "plans with errors", failing, 3)
}

// wantSame asks that two plans denote the same, and have columns of the same kinds; it returns what they denote.
func wantSame(t *testing.T, s api.State, p, made api.Plan) string {
	t.Helper()
	before, after := told(mean.Run(s, p)), told(mean.Run(s, made))
	if after != before || !slices.Equal(kindsOf(t, s.Tables, p), kindsOf(t, s.Tables, made)) {
		t.Fatalf("%s over %+v: %s\n%s: %s", tell(p), s, before, tell(made), after)
	}
	return after
}

// P15.3: rules one after the other, in any order: whatever they make of a plan denotes the same.
func TestManyRulesByChance(t *testing.T) {
	t.Parallel()
	var applied [20]int
	for seed := range 3000 {
		m := newMaker(int64(seed))
		p := m.plan(seed % 20)
		made := p
		for range 60 {
			rule := m.Intn(20)
			if x, ok := rules.Apply(m.state.Tables, made, rule, m.Intn(plan.Nodes(made))); ok {
				made = x
				applied[rule]++
			}
		}
		wantSame(t, m.state, p, made)
	}
	wantEnough(t, "applied after others", applied, 20)
}
