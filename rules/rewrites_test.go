package rules_test

import (
	"testing"

	"touchmark/api"
	"touchmark/plan"
	"touchmark/rules"
)

// tables are t (a int primary key, b text, c bool), u (a int, d int), w (a text, e bool, f int primary key), o (a bool primary key, b text), and k (a bool, b text primary key).
func tables() []api.Table {
	return []api.Table{
		{Name: "t", Columns: []api.Column{{Name: "a", Kind: api.Int}, {Name: "b", Kind: api.Text, Nullable: true}, {Name: "c", Kind: api.Bool, Nullable: true}}},
		{Name: "u", Key: -1, Columns: []api.Column{{Name: "a", Kind: api.Int, Nullable: true}, {Name: "d", Kind: api.Int, Nullable: true}}},
		{Name: "w", Key: 2, Columns: []api.Column{{Name: "a", Kind: api.Text}, {Name: "e", Kind: api.Bool}, {Name: "f", Kind: api.Int}}},
		{Name: "o", Key: 0, Columns: []api.Column{{Name: "a", Kind: api.Bool}, {Name: "b", Kind: api.Text}}},
		{Name: "k", Key: 1, Columns: []api.Column{{Name: "a", Kind: api.Bool}, {Name: "b", Kind: api.Text}}},
	}
}

// applied is what a rule makes of a plan, at the plan with a number in it.
type applied struct {
	rule, at     int
	before, want string
}

const none = "none"

func wantApplied(t *testing.T, l []applied) {
	t.Helper()
	for _, c := range l {
		p := read(c.before).plan()
		if _, e := plan.Check(tables(), p); e != api.OK {
			t.Errorf("%s: error %d", c.before, e)
		}
		got, ok := rules.Apply(tables(), p, c.rule, c.at)
		if ok != (c.want != none) || !plan.Same(got, read(c.want).plan()) {
			t.Errorf("rule %d at %d of %s:\n%s, %t, not\n%s", c.rule, c.at, c.before, tell(got), ok, c.want)
		}
	}
}

// The chapter's examples.
func TestExamples(t *testing.T) {
	wantApplied(t, []applied{
		{1, 1, "project [0] (select (and (gt 0 #1) 2) (scan t))", "project [0] (select 2 (select (gt 0 #1) (scan t)))"},
		{18, 0, "select (gt 0 #3) (scan t)", "select (gt 0 #3) (seek t #3 null)"},
		{0, 0, "select (gt (div #1 0) #3) (select 2 (scan t))", none},
		{19, 0, "select (eq 0 (add #1 #2)) (scan t)", "select (eq 0 #3) (scan t)"},
		{7, 0, "join (eq 0 3) (scan t) (scan t)", "project [3, 4, 5, 0, 1, 2] (join (eq 3 0) (scan t) (scan t))"},
	})
}

// P15.2: rules 0 and 1, selects of selects.
func TestSelectsOfSelects(t *testing.T) {
	wantApplied(t, []applied{
		{0, 0, "select 2 (select (isnull 1) (scan t))", "select (and (isnull 1) 2) (scan t)"},
		{0, 0, "select (or (eq 0 #1) (not 2)) (select null (scan t))", "select (and null (or (eq 0 #1) (not 2))) (scan t)"},
		{0, 0, "select null (select (eq (neg 0) #1) (scan t))", "select (and (eq (neg 0) #1) null) (scan t)"},
		{0, 0, "select (and true 2) (select (and 2 2) (scan t))", "select (and (and 2 2) (and true 2)) (scan t)"},
		{0, 0, "select (eq (neg 0) #1) (select 2 (scan t))", none},
		{0, 0, "select (and 2 (eq (rem 0 #2) #1)) (select 2 (scan t))", none},
		{0, 0, "select (isnull (add 0 #1)) (select 2 (scan t))", none},
		{0, 0, "select 2 (scan t)", none},
		{0, 0, "select 0 (project [2] (select 2 (scan t)))", none},
		{0, 0, "select 2 (distinct (select 2 (scan t)))", none},
		{0, 0, "distinct (select 2 (select 2 (scan t)))", none},
		{0, 0, "select 2 (semi 2 (scan t) (scan u))", none},
		{1, 0, "select (and 2 (gt 0 #1)) (scan t)", "select (gt 0 #1) (select 2 (scan t))"},
		{1, 0, "select (and (eq (neg 0) #1) 2) (scan t)", "select 2 (select (eq (neg 0) #1) (scan t))"},
		{1, 0, "select (and (and 2 true) (and null false)) (distinct (scan t))", "select (and null false) (select (and 2 true) (distinct (scan t)))"},
		{1, 0, "select (and 2 (eq (neg 0) #1)) (scan t)", none},
		{1, 0, "select (or 2 true) (scan t)", none},
		{1, 0, "select 2 (scan t)", none},
		{1, 0, "select (eq 2 2) (scan t)", none},
		{1, 0, "select (not (and 2 2)) (scan t)", none},
		{1, 0, "project [(and 2 2)] (scan t)", none},
		{1, 0, "join (and 2 2) (scan t) (scan t)", none},
	})
}

// P15.2: a rule is applied to the plan with the number, wherever it is, and the others stay.
func TestNumbers(t *testing.T) {
	wantApplied(t, []applied{
		{0, 0, "select true (select 2 (select (isnull 1) (scan t)))", "select (and 2 true) (select (isnull 1) (scan t))"},
		{0, 1, "select true (select 2 (select (isnull 1) (scan t)))", "select true (select (and (isnull 1) 2) (scan t))"},
		{0, 2, "select true (select 2 (select (isnull 1) (scan t)))", none},
		{0, 3, "select true (select 2 (select (isnull 1) (scan t)))", none},
		{0, 4, "select true (select 2 (select (isnull 1) (scan t)))", none},
		{0, -1, "select true (select 2 (scan t))", none},
		{0, 0, "limit 3 (sort [2 (down 0)] (select true (select 2 (scan t))))", none},
		{0, 1, "limit 3 (sort [2 (down 0)] (select true (select 2 (scan t))))", none},
		{0, 2, "limit 3 (sort [2 (down 0)] (select true (select 2 (scan t))))", "limit 3 (sort [2 (down 0)] (select (and 2 true) (scan t)))"},
		{16, 1, "sort [] (select true (scan t))", "sort [] (scan t)"},
		{16, 1, "union (select true (scan u)) (select true (select null (scan u)))", "union (scan u) (select true (select null (scan u)))"},
		{16, 2, "union (select true (scan u)) (select true (select null (scan u)))", none},
		{16, 3, "union (select true (scan u)) (select true (select null (scan u)))", "union (select true (scan u)) (select null (scan u))"},
		{16, 4, "union (select true (scan u)) (select true (select null (scan u)))", none},
		{16, 4, "left 2 (join true (scan t) (select null (select true (scan u)))) (group [0] [countall (max 1)] (select true (scan t)))", "left 2 (join true (scan t) (select null (scan u))) (group [0] [countall (max 1)] (select true (scan t)))"},
		{16, 7, "left 2 (join true (scan t) (select null (select true (scan u)))) (group [0] [countall (max 1)] (select true (scan t)))", "left 2 (join true (scan t) (select null (select true (scan u)))) (group [0] [countall (max 1)] (scan t))"},
		{16, 8, "left 2 (join true (scan t) (select null (select true (scan u)))) (group [0] [countall (max 1)] (select true (scan t)))", none},
		{16, 6, "left 2 (join true (scan t) (select null (select true (scan u)))) (group [0] [countall (max 1)] (select true (scan t)))", none},
		{18, 5, "except (select (eq 0 #1) (seek t null #1)) (semi true (distinct (select (ge 0 #2) (scan t))) (scan w))", "except (select (eq 0 #1) (seek t null #1)) (semi true (distinct (select (ge 0 #2) (seek t #2 null))) (scan w))"},
	})
}

// P15.2: rules 2 and 14, projections under selects and under projections.
func TestProjections(t *testing.T) {
	wantApplied(t, []applied{
		{2, 0, "select (eq 0 1) (project [1 'x'] (scan t))", "project [1 'x'] (select (eq 1 'x') (scan t))"},
		{2, 0, "select (and 1 (and 0 1)) (project [(eq 0 #1) (or 2 (isnull 1))] (scan t))", "project [(eq 0 #1) (or 2 (isnull 1))] (select (and (or 2 (isnull 1)) (and (eq 0 #1) (or 2 (isnull 1)))) (scan t))"},
		{2, 0, "select (isnull 2) (project [2 1 0] (scan t))", "project [2 1 0] (select (isnull 0) (scan t))"},
		{2, 0, "select true (project [0 0] (scan t))", "project [0 0] (select true (scan t))"},
		{2, 0, "select 0 (project [null] (scan t))", "project [null] (select null (scan t))"},
		{2, 1, "distinct (select 0 (project [2] (scan t)))", "distinct (project [2] (select 2 (scan t)))"},
		{2, 0, "select (eq (neg 0) #1) (project [0] (scan t))", none},
		{2, 0, "select (eq 0 #1) (project [0 (neg 0)] (scan t))", none},
		{2, 0, "select (eq 0 #1) (project [(neg 0)] (scan t))", none},
		{2, 0, "select 0 (project [(isnull (neg 0))] (scan t))", none},
		{2, 0, "select (eq 0 #1) (distinct (project [0] (scan t)))", none},
		{2, 0, "select (eq 0 #1) (group [0] [] (scan t))", none},
		{2, 0, "project [0] (project [0] (scan t))", none},
		{14, 0, "project [1 0 1] (project [(isnull 1) 2] (scan t))", "project [2 (isnull 1) 2] (scan t)"},
		{14, 0, "project [#1] (project [0] (scan t))", "project [#1] (scan t)"},
		{14, 0, "project [(div #1 0) (neg 0)] (project [0] (scan t))", "project [(div #1 0) (neg 0)] (scan t)"},
		{14, 0, "project [(eq 0 (neg 1)) 2] (project [#5 0 'x'] (scan t))", "project [(eq #5 (neg 0)) 'x'] (scan t)"},
		{14, 0, "project [0] (project [1 0] (project [2 1] (scan t)))", "project [1] (project [2 1] (scan t))"},
		{14, 1, "project [0] (project [1 0] (project [2 1] (scan t)))", "project [0] (project [1 2] (scan t))"},
		{14, 0, "project [0] (project [0 (neg 0)] (scan t))", none},
		{14, 0, "project [1] (project [0 (isnull (add 0 #1))] (scan t))", none},
		{14, 0, "project [0] (scan t)", none},
		{14, 0, "project [0] (distinct (project [0] (scan t)))", none},
		{14, 0, "project [0] (group [0] [] (scan t))", none},
		{14, 0, "select 0 (project [2] (scan t))", none},
	})
}

// P15.2: rules 3 to 6, conditions of joins; 0 to 2 are columns of t, 3 and 4 of u.
func TestConditionsOfJoins(t *testing.T) {
	wantApplied(t, []applied{
		{3, 0, "select (lt 4 0) (join (eq 0 3) (scan t) (scan u))", "join (and (eq 0 3) (lt 4 0)) (scan t) (scan u)"},
		{3, 0, "select 2 (join (eq (div 0 3) #1) (scan t) (scan u))", "join (and (eq (div 0 3) #1) 2) (scan t) (scan u)"},
		{3, 1, "distinct (select null (join null (scan t) (scan u)))", "distinct (join (and null null) (scan t) (scan u))"},
		{3, 0, "select (eq (div 0 3) #1) (join 2 (scan t) (scan u))", none},
		{3, 0, "select 2 (left 2 (scan t) (scan u))", none},
		{3, 0, "select 2 (semi 2 (scan t) (scan u))", none},
		{3, 0, "select 2 (select 2 (scan t))", none},
		{3, 0, "join 2 (scan t) (scan u)", none},
		{4, 0, "join (and 2 (eq 0 3)) (scan t) (scan u)", "select (eq 0 3) (join 2 (scan t) (scan u))"},
		{4, 0, "join (and (eq (neg 0) 3) 2) (scan t) (scan u)", "select 2 (join (eq (neg 0) 3) (scan t) (scan u))"},
		{4, 0, "join (and (and 2 true) (and null false)) (scan t) (scan u)", "select (and null false) (join (and 2 true) (scan t) (scan u))"},
		{4, 0, "join (and 2 (eq (neg 0) 3)) (scan t) (scan u)", none},
		{4, 0, "join 2 (scan t) (scan u)", none},
		{4, 0, "join (or 2 2) (scan t) (scan u)", none},
		{4, 0, "left (and 2 2) (scan t) (scan u)", none},
		{4, 0, "semi (and 2 2) (scan t) (scan u)", none},
		{4, 0, "select (and 2 2) (scan t)", none},
		{5, 0, "join (and 2 (eq 0 3)) (scan t) (scan u)", "join (eq 0 3) (select 2 (scan t)) (scan u)"},
		{5, 0, "join (and (eq 0 #1) (isnull 4)) (scan t) (scan u)", "join (isnull 4) (select (eq 0 #1) (scan t)) (scan u)"},
		{5, 0, "join (and true 2) (scan t) (scan u)", "join 2 (select true (scan t)) (scan u)"},
		{5, 0, "join (and (eq 0 3) 2) (scan t) (scan u)", none},
		{5, 0, "join (and (isnull 3) 2) (scan t) (scan u)", none},
		{5, 0, "join (and (and 2 (isnull 3)) 2) (scan t) (scan u)", none},
		{5, 0, "join (and (eq (neg 0) #1) 2) (scan t) (scan u)", none},
		{5, 0, "join (and 2 (eq (neg 0) #1)) (scan t) (scan u)", none},
		{5, 0, "join (or 2 2) (scan t) (scan u)", none},
		{5, 0, "join 2 (scan t) (scan u)", none},
		{5, 0, "left (and 2 2) (scan t) (scan u)", none},
		{5, 0, "select (and 2 2) (scan t)", none},
		{6, 0, "join (and (gt 3 4) (eq 0 3)) (scan t) (scan u)", "join (eq 0 3) (scan t) (select (gt 0 1) (scan u))"},
		{6, 0, "join (and (isnull 4) 2) (scan t) (scan u)", "join 2 (scan t) (select (isnull 1) (scan u))"},
		{6, 0, "join (and true 2) (scan t) (scan u)", "join 2 (scan t) (select true (scan u))"},
		{6, 0, "join (and (and 5 (eq 5 true)) 2) (join true (scan t) (scan u)) (project [(isnull 1)] (scan u))", "join 2 (join true (scan t) (scan u)) (select (and 0 (eq 0 true)) (project [(isnull 1)] (scan u)))"},
		{6, 0, "join (and 2 (eq 0 3)) (scan t) (scan u)", none},
		{6, 0, "join (and (eq 0 3) (eq 3 4)) (scan t) (scan u)", none},
		{6, 0, "join (and (eq (neg 3) 4) 2) (scan t) (scan u)", none},
		{6, 0, "join (and (isnull 3) (eq (neg 3) 4)) (scan t) (scan u)", none},
		{6, 0, "join (or (isnull 3) 2) (scan t) (scan u)", none},
		{6, 0, "join (isnull 3) (scan t) (scan u)", none},
		{6, 0, "left (and (isnull 3) 2) (scan t) (scan u)", none},
	})
}

// P15.2: rules 7 and 8, the order of joins.
func TestOrderOfJoins(t *testing.T) {
	wantApplied(t, []applied{
		{7, 0, "join (eq 0 3) (scan t) (scan u)", "project [2 3 4 0 1] (join (eq 2 0) (scan u) (scan t))"},
		{7, 0, "join (and (eq 1 2) (gt (div 0 4) #0)) (scan u) (project [0 2 0] (scan t))", "project [3 4 0 1 2] (join (and (eq 4 0) (gt (div 3 2) #0)) (project [0 2 0] (scan t)) (scan u))"},
		{7, 0, "join true (project [0] (scan t)) (scan t)", "project [3 0 1 2] (join true (scan t) (project [0] (scan t)))"},
		{7, 0, "join 5 (join true (scan u) (scan t)) (project [(isnull 1)] (scan u))", "project [1 2 3 4 5 0] (join 0 (project [(isnull 1)] (scan u)) (join true (scan u) (scan t)))"},
		{7, 0, "join null (semi true (scan t) (scan u)) (left true (scan u) (scan t))", "project [5 6 7 0 1 2 3 4] (join null (left true (scan u) (scan t)) (semi true (scan t) (scan u)))"},
		{7, 2, "sort [4] (distinct (join 2 (scan t) (scan u)))", "sort [4] (distinct (project [2 3 4 0 1] (join 4 (scan u) (scan t))))"},
		{7, 2, "union (scan u) (join (isnull 0) (project [0] (scan u)) (project [1] (scan u)))", "union (scan u) (project [1 0] (join (isnull 1) (project [1] (scan u)) (project [0] (scan u))))"},
		{7, 0, "left true (scan t) (scan u)", none},
		{7, 0, "semi true (scan t) (scan u)", none},
		{7, 0, "anti true (scan t) (scan u)", none},
		{7, 0, "union (scan u) (scan u)", none},
		{8, 0, "join (eq 4 7) (join (eq 0 3) (scan t) (scan u)) (scan w)", "join (and (eq 0 3) (eq 4 7)) (scan t) (join true (scan u) (scan w))"},
		{8, 0, "join 6 (join null (scan t) (scan u)) (scan w)", "join (and null 6) (scan t) (join true (scan u) (scan w))"},
		{8, 0, "join 2 (join true (join (isnull 4) (scan t) (scan u)) (scan w)) (scan o)", "join (and true 2) (join (isnull 4) (scan t) (scan u)) (join true (scan w) (scan o))"},
		{8, 1, "join 2 (join true (join (isnull 4) (scan t) (scan u)) (scan w)) (scan o)", "join 2 (join (and (isnull 4) true) (scan t) (join true (scan u) (scan w))) (scan o)"},
		{8, 0, "join (eq (neg 4) 7) (join (eq 0 3) (scan t) (scan u)) (scan w)", none},
		{8, 0, "join (eq 4 7) (join (eq (neg 0) 3) (scan t) (scan u)) (scan w)", none},
		{8, 0, "join true (scan w) (join true (scan t) (scan u))", none},
		{8, 0, "join true (left true (scan t) (scan u)) (scan w)", none},
		{8, 0, "join true (semi true (scan t) (scan u)) (scan w)", none},
		{8, 0, "left true (join true (scan t) (scan u)) (scan w)", none},
		{8, 0, "select true (join true (scan t) (scan u))", none},
	})
}

// P15.2: rules 9 and 10, selects of left joins; 0 to 2 are columns of t, 3 and 4 of u.
func TestSelectsOfLeftJoins(t *testing.T) {
	wantApplied(t, []applied{
		{9, 0, "select 2 (left (eq 0 3) (scan t) (scan u))", "left (eq 0 3) (select 2 (scan t)) (scan u)"},
		{9, 0, "select (and (eq 0 #1) (notnull 1)) (left null (scan t) (scan u))", "left null (select (and (eq 0 #1) (notnull 1)) (scan t)) (scan u)"},
		{9, 0, "select false (left (eq 0 3) (scan t) (scan u))", "left (eq 0 3) (select false (scan t)) (scan u)"},
		{9, 0, "select (eq 2 #1) (left (eq 0 2) (scan u) (scan t))", none},
		{9, 0, "select (isnull 3) (left (eq 0 3) (scan t) (scan u))", none},
		{9, 0, "select (and 2 (isnull 4)) (left (eq 0 3) (scan t) (scan u))", none},
		{9, 0, "select (eq (neg 0) #1) (left (eq 0 3) (scan t) (scan u))", none},
		{9, 0, "select 2 (left (eq (neg 0) 3) (scan t) (scan u))", none},
		{9, 0, "select 2 (join (eq 0 3) (scan t) (scan u))", none},
		{9, 0, "select 2 (semi (eq 0 3) (scan t) (scan u))", none},
		{9, 0, "left 2 (scan t) (scan u)", none},
		{10, 0, "select (notnull 3) (left (eq 0 3) (scan t) (scan u))", "select (notnull 3) (join (eq 0 3) (scan t) (scan u))"},
		{10, 0, "select (notnull 4) (left (eq (neg 0) 3) (scan t) (scan u))", "select (notnull 4) (join (eq (neg 0) 3) (scan t) (scan u))"},
		{10, 0, "select (eq 3 #1) (left (eq 0 3) (scan t) (scan u))", "select (eq 3 #1) (join (eq 0 3) (scan t) (scan u))"},
		{10, 0, "select (ne #1 4) (left null (scan t) (scan u))", "select (ne #1 4) (join null (scan t) (scan u))"},
		{10, 0, "select (lt 4 0) (left (eq 0 3) (scan t) (scan u))", "select (lt 4 0) (join (eq 0 3) (scan t) (scan u))"},
		{10, 0, "select (le 0 3) (left (eq 0 3) (scan t) (scan u))", "select (le 0 3) (join (eq 0 3) (scan t) (scan u))"},
		{10, 0, "select (gt 3 4) (left (eq 0 3) (scan t) (scan u))", "select (gt 3 4) (join (eq 0 3) (scan t) (scan u))"},
		{10, 0, "select (ge 3 null) (left (eq 0 3) (scan t) (scan u))", "select (ge 3 null) (join (eq 0 3) (scan t) (scan u))"},
		{10, 0, "select (eq null 3) (left (eq 0 3) (scan t) (scan u))", "select (eq null 3) (join (eq 0 3) (scan t) (scan u))"},
		{10, 0, "select (notnull 2) (left (eq 0 3) (scan t) (scan u))", none},
		{10, 0, "select (notnull 0) (left (eq 0 3) (scan t) (scan u))", none},
		{10, 0, "select (notnull (eq 3 4)) (left (eq 0 3) (scan t) (scan u))", none},
		{10, 0, "select (isnull 3) (left (eq 0 3) (scan t) (scan u))", none},
		{10, 0, "select (not (isnull 3)) (left (eq 0 3) (scan t) (scan u))", none},
		{10, 0, "select (and (notnull 3) (eq 3 #1)) (left (eq 0 3) (scan t) (scan u))", none},
		{10, 0, "select (or (notnull 3) (eq 3 #1)) (left (eq 0 3) (scan t) (scan u))", none},
		{10, 0, "select (eq 0 #1) (left (eq 0 3) (scan t) (scan u))", none},
		{10, 0, "select (eq 2 (notnull 3)) (left (eq 0 3) (scan t) (scan u))", none},
		{10, 0, "select (eq (neg 3) #1) (left (eq 0 3) (scan t) (scan u))", none},
		{10, 0, "select (eq 3 (neg 0)) (left (eq 0 3) (scan t) (scan u))", none},
		{10, 0, "select (lt (neg 0) 3) (left (eq 0 3) (scan t) (scan u))", none},
		{10, 0, "select 3 (left true (scan t) (project [(isnull 0)] (scan u)))", none},
		{10, 0, "select (not 3) (left true (scan t) (project [(isnull 0)] (scan u)))", none},
		{10, 0, "select (notnull 3) (left true (scan t) (project [(neg 0)] (scan u)))", "select (notnull 3) (join true (scan t) (project [(neg 0)] (scan u)))"},
		{10, 0, "select (notnull 2) (left true (scan t) (project [(isnull 0)] (scan u)))", none},
		{10, 0, "select (notnull 3) (join true (scan t) (scan u))", none},
		{10, 0, "left (notnull 3) (scan t) (scan u)", none},
	})
}

// P15.2: rules 11, 12, 16 and 17, selects of several plans.
func TestSelects(t *testing.T) {
	wantApplied(t, []applied{
		{11, 0, "select (eq 0 #1) (union (scan u) (distinct (scan u)))", "union (select (eq 0 #1) (scan u)) (select (eq 0 #1) (distinct (scan u)))"},
		{11, 0, "select (eq (div #1 0) #1) (union (scan u) (scan u))", "union (select (eq (div #1 0) #1) (scan u)) (select (eq (div #1 0) #1) (scan u))"},
		{11, 0, "select (not 0) (union (project [null] (scan u)) (project [2] (scan t)))", "union (select (not 0) (project [null] (scan u))) (select (not 0) (project [2] (scan t)))"},
		{11, 0, "select (eq 0 #1) (except (scan u) (project [0 0] (scan t)))", "except (select (eq 0 #1) (scan u)) (select (eq 0 #1) (project [0 0] (scan t)))"},
		{11, 0, "select (eq (neg 0) #1) (except (scan u) (scan u))", none},
		{11, 0, "select true (join true (scan u) (scan u))", none},
		{11, 0, "union (scan u) (scan u)", none},
		{11, 0, "distinct (union (scan u) (scan u))", none},
		{12, 0, "select (eq 0 #1) (distinct (scan u))", "distinct (select (eq 0 #1) (scan u))"},
		{12, 0, "select 0 (distinct (distinct (project [(isnull (neg 0))] (scan u))))", "distinct (select 0 (distinct (project [(isnull (neg 0))] (scan u))))"},
		{12, 0, "select (eq (neg 0) #1) (distinct (scan u))", none},
		{12, 0, "select true (union (scan u) (scan u))", none},
		{12, 0, "distinct (select true (scan u))", none},
		{12, 0, "distinct (distinct (scan u))", none},
		{16, 0, "select true (scan t)", "scan t"},
		{16, 0, "select true (select true (scan t))", "select true (scan t)"},
		{16, 0, "select false (scan t)", none},
		{16, 0, "select null (scan t)", none},
		{16, 0, "select 2 (scan t)", none},
		{16, 0, "select (and true true) (scan t)", none},
		{16, 0, "select (not false) (scan t)", none},
		{16, 0, "project [true] (scan t)", none},
		{16, 0, "join true (scan t) (scan t)", none},
		{17, 0, "select 2 (semi (eq 0 3) (scan t) (scan u))", "semi (eq 0 3) (select 2 (scan t)) (scan u)"},
		{17, 0, "select (eq 0 #1) (anti (or (isnull 3) (eq 0 3)) (scan t) (scan u))", "anti (or (isnull 3) (eq 0 3)) (select (eq 0 #1) (scan t)) (scan u)"},
		{17, 0, "select null (anti null (scan t) (scan u))", "anti null (select null (scan t)) (scan u)"},
		{17, 0, "select (eq (neg 0) #1) (semi 2 (scan t) (scan u))", none},
		{17, 0, "select (eq (neg 0) #1) (anti 2 (scan t) (scan u))", none},
		{17, 0, "select 2 (semi (eq (neg 0) 3) (scan t) (scan u))", none},
		{17, 0, "select 2 (anti (eq (neg 0) 3) (scan t) (scan u))", none},
		{17, 0, "select 2 (left (eq 0 3) (scan t) (scan u))", none},
		{17, 0, "select 2 (join (eq 0 3) (scan t) (scan u))", none},
		{17, 0, "semi 2 (scan t) (scan u)", none},
	})
}

// P15.2: rules 13 and 15, groups under selects, and what has different rows under distinct.
func TestGroups(t *testing.T) {
	wantApplied(t, []applied{
		{13, 0, "select (eq 0 'x') (group [1 0] [countall] (scan t))", "group [1 0] [countall] (select (eq 1 'x') (scan t))"},
		{13, 0, "select (and 1 (lt 0 #2)) (group [0 (isnull 1)] [(count 2) (min (eq 0 #1)) (max 1)] (scan t))", "group [0 (isnull 1)] [(count 2) (min (eq 0 #1)) (max 1)] (select (and (isnull 1) (lt 0 #2)) (scan t))"},
		{13, 0, "select true (group [0] [] (scan t))", "group [0] [] (select true (scan t))"},
		{13, 0, "select null (group [0] [countall] (scan t))", "group [0] [countall] (select null (scan t))"},
		{13, 0, "select 0 (group [null] [countall] (scan t))", "group [null] [countall] (select null (scan t))"},
		{13, 0, "select (eq 1 #1) (group [0] [countall] (scan t))", none},
		{13, 0, "select (and (eq 0 #1) (eq 2 'x')) (group [0] [countall (max 1)] (scan t))", none},
		{13, 0, "select (eq (neg 0) #1) (group [0] [] (scan t))", none},
		{13, 0, "select (eq 0 #1) (group [0 (neg 0)] [] (scan t))", none},
		{13, 0, "select (eq 0 #1) (group [0] [(count (neg 0))] (scan t))", none},
		{13, 0, "select (eq 0 #1) (group [0] [countall (max 1) (min (add 0 #1))] (scan t))", none},
		{13, 0, "select (eq 0 #1) (group [0] [(sum 0)] (scan t))", none},
		{13, 0, "select (eq 0 #1) (group [0] [countall (max 1) (sum #1)] (scan t))", none},
		{13, 0, "select true (group [] [countall] (scan t))", none},
		{13, 0, "select false (group [] [(max 0)] (scan t))", none},
		{13, 0, "select true (project [0] (scan t))", none},
		{13, 0, "group [0] [] (group [0] [] (scan t))", none},
		{15, 0, "distinct (distinct (scan u))", "distinct (scan u)"},
		{15, 0, "distinct (distinct (distinct (scan u)))", "distinct (distinct (scan u))"},
		{15, 1, "distinct (distinct (distinct (scan u)))", "distinct (distinct (scan u))"},
		{15, 0, "distinct (group [(neg 0)] [(sum 0) countall] (scan u))", "group [(neg 0)] [(sum 0) countall] (scan u)"},
		{15, 0, "distinct (group [] [countall] (scan u))", "group [] [countall] (scan u)"},
		{15, 0, "distinct (group [0] [] (scan u))", "group [0] [] (scan u)"},
		{15, 0, "distinct (scan t)", none},
		{15, 0, "distinct (select true (distinct (scan u)))", none},
		{15, 0, "select true (distinct (scan u))", none},
		{15, 0, "distinct (union (scan u) (scan u))", none},
		{15, 0, "distinct (project [0] (scan u))", none},
	})
}

// P15.2: rule 18, tables between keys; t has the key 0, w the key 2, o and k have keys of other kinds.
func TestSeeks(t *testing.T) {
	wantApplied(t, []applied{
		{18, 0, "select (eq 0 #7) (scan t)", "select (eq 0 #7) (seek t #7 #7)"},
		{18, 0, "select (le 0 #7) (scan t)", "select (le 0 #7) (seek t null #7)"},
		{18, 0, "select (lt 0 #7) (scan t)", "select (lt 0 #7) (seek t null #7)"},
		{18, 0, "select (ge 0 #7) (scan t)", "select (ge 0 #7) (seek t #7 null)"},
		{18, 0, "select (gt 0 #-7) (scan t)", "select (gt 0 #-7) (seek t #-7 null)"},
		{18, 0, "select (and (lt 0 #7) (gt 0 #1)) (scan t)", "select (and (lt 0 #7) (gt 0 #1)) (seek t null #7)"},
		{18, 0, "select (and (gt 0 #1) (lt 0 #7)) (scan t)", "select (and (gt 0 #1) (lt 0 #7)) (seek t #1 null)"},
		{18, 0, "select (and 2 (eq 0 #1)) (scan t)", "select (and 2 (eq 0 #1)) (seek t #1 #1)"},
		{18, 0, "select (and (and 2 (isnull 1)) (and (ne 0 #1) (and (ge 0 #2) (eq 0 #3)))) (scan t)", "select (and (and 2 (isnull 1)) (and (ne 0 #1) (and (ge 0 #2) (eq 0 #3)))) (seek t #2 null)"},
		{18, 0, "select (and (and 2 (le 0 #5)) (eq 0 #3)) (scan t)", "select (and (and 2 (le 0 #5)) (eq 0 #3)) (seek t null #5)"},
		{18, 0, "select (and (eq 0 null) (and (eq #1 0) (lt 0 #9))) (scan t)", "select (and (eq 0 null) (and (eq #1 0) (lt 0 #9))) (seek t null #9)"},
		{18, 0, "select (and (or (eq 0 #1) (eq 0 #2)) (le 0 #2)) (scan t)", "select (and (or (eq 0 #1) (eq 0 #2)) (le 0 #2)) (seek t null #2)"},
		{18, 0, "select (and (not (eq 0 #1)) (eq 0 #2)) (scan t)", "select (and (not (eq 0 #1)) (eq 0 #2)) (seek t #2 #2)"},
		{18, 0, "select (eq 2 #7) (scan w)", "select (eq 2 #7) (seek w #7 #7)"},
		{18, 0, "select (and (eq 0 'x') (gt 2 #7)) (scan w)", "select (and (eq 0 'x') (gt 2 #7)) (seek w #7 null)"},
		{18, 0, "select (lt 0 true) (scan o)", "select (lt 0 true) (seek o null true)"},
		{18, 0, "select (eq 0 false) (scan o)", "select (eq 0 false) (seek o false false)"},
		{18, 0, "select (ge 1 'x') (scan k)", "select (ge 1 'x') (seek k 'x' null)"},
		{18, 0, "select (and 0 (eq 1 '')) (scan k)", "select (and 0 (eq 1 '')) (seek k '' '')"},
		{18, 0, "select (eq #7 0) (scan t)", none},
		{18, 0, "select (gt #7 0) (scan t)", none},
		{18, 0, "select (ne 0 #7) (scan t)", none},
		{18, 0, "select (eq 0 null) (scan t)", none},
		{18, 0, "select (lt 0 null) (scan t)", none},
		{18, 0, "select (eq 0 0) (scan t)", none},
		{18, 0, "select (eq #1 #7) (scan t)", none},
		{18, 0, "select (ge (isnull 1) true) (scan o)", none},
		{18, 0, "select (and 0 (le (not 0) true)) (scan o)", none},
		{18, 0, "select (isnull 0) (scan t)", none},
		{18, 0, "select (eq 1 'x') (scan t)", none},
		{18, 0, "select 2 (scan t)", none},
		{18, 0, "select true (scan t)", none},
		{18, 0, "select (not (eq 0 #1)) (scan t)", none},
		{18, 0, "select (or (eq 0 #1) (eq 0 #2)) (scan t)", none},
		{18, 0, "select (eq (eq 0 #1) true) (scan t)", none},
		{18, 0, "select (eq 2 true) (scan t)", none},
		{18, 0, "select (and (eq 0 #1) (eq (neg 0) #1)) (scan t)", none},
		{18, 0, "select (and (eq (div #1 0) #1) (eq 0 #1)) (scan t)", none},
		{18, 0, "select (eq 0 (neg #1)) (scan t)", none},
		{18, 0, "select (eq 0 (add #1 #2)) (scan t)", none},
		{18, 0, "select (eq 0 'x') (scan w)", none},
		{18, 0, "select (eq 0 #1) (scan u)", none},
		{18, 0, "select (eq 1 #1) (scan u)", none},
		{18, 0, "select (eq 1 'x') (scan o)", none},
		{18, 0, "select (eq 0 true) (scan k)", none},
		{18, 0, "select (eq 0 #1) (seek t #1 #2)", none},
		{18, 0, "select (eq 0 #1) (distinct (scan t))", none},
		{18, 0, "project [(eq 0 #1)] (scan t)", none},
		{18, 0, "join (eq 0 #1) (scan t) (scan t)", none},
		{18, 0, "scan t", none},
	})
}

// P15.2: rule 19, what can be computed ahead.
func TestComputed(t *testing.T) {
	wantApplied(t, []applied{
		{19, 0, "select (isnull null) (scan t)", "select true (scan t)"},
		{19, 0, "select (notnull null) (scan t)", "select false (scan t)"},
		{19, 0, "select (not true) (scan t)", "select false (scan t)"},
		{19, 0, "select (not null) (scan t)", "select null (scan t)"},
		{19, 0, "select (and true null) (scan t)", "select null (scan t)"},
		{19, 0, "select (or true null) (scan t)", "select true (scan t)"},
		{19, 0, "select (eq 'x' 'x') (scan t)", "select true (scan t)"},
		{19, 0, "select (lt null #1) (scan t)", "select null (scan t)"},
		{19, 0, "select (ge true false) (scan t)", "select true (scan t)"},
		{19, 0, "project [(neg #5)] (scan t)", "project [#-5] (scan t)"},
		{19, 0, "project [(sub #5 #7) 0] (scan t)", "project [#-2 0] (scan t)"},
		{19, 0, "project [(mul #-3 #7)] (scan t)", "project [#-21] (scan t)"},
		{19, 0, "project [(div #-7 #2)] (scan t)", "project [#-3] (scan t)"},
		{19, 0, "project [(rem #-7 #2)] (scan t)", "project [#-1] (scan t)"},
		{19, 0, "project [0 (add 0 (add #1 #2)) (add #3 #4)] (scan t)", "project [0 (add 0 #3) (add #3 #4)] (scan t)"},
		{19, 0, "project [(add (add #1 #2) (add #3 #4))] (scan t)", "project [(add #3 (add #3 #4))] (scan t)"},
		{19, 0, "project [(add (add 0 #2) (add #3 (neg #4)))] (scan t)", "project [(add (add 0 #2) (add #3 #-4))] (scan t)"},
		{19, 0, "project [(eq (neg 0) #1) (and (isnull 1) (isnull (not false)))] (scan t)", "project [(eq (neg 0) #1) (and (isnull 1) (isnull true))] (scan t)"},
		{19, 0, "project [(and (eq #1 #2) (isnull (isnull (isnull 'x'))))] (scan t)", "project [(and false (isnull (isnull (isnull 'x'))))] (scan t)"},
		{19, 0, "project [(div #1 #0) (neg #1)] (scan t)", "project [(div #1 #0) #-1] (scan t)"},
		{19, 0, "project [(add (div #1 #0) (neg #1))] (scan t)", "project [(add (div #1 #0) #-1)] (scan t)"},
		{19, 0, "project [(neg #-9223372036854775808) (neg #9223372036854775807)] (scan t)", "project [(neg #-9223372036854775808) #-9223372036854775807] (scan t)"},
		{19, 0, "select (eq (neg null) #1) (scan t)", "select (eq null #1) (scan t)"},
		{19, 0, "select (and (eq null #1) 2) (scan t)", "select (and null 2) (scan t)"},
		{19, 0, "project [(isnull (eq null #1))] (scan t)", "project [(isnull null)] (scan t)"},
		{19, 0, "select 2 (scan t)", none},
		{19, 0, "select true (scan t)", none},
		{19, 0, "select (eq 0 #1) (scan t)", none},
		{19, 0, "select (and 2 true) (scan t)", none},
		{19, 0, "select (eq (div #1 #0) #1) (scan t)", none},
		{19, 0, "project [(neg #-9223372036854775808)] (scan t)", none},
		{19, 0, "project [(add #9223372036854775807 #1)] (scan t)", none},
		{19, 0, "project [0 #1 null] (scan t)", none},
		{19, 0, "project [(eq null #1)] (scan t)", none},
		{19, 0, "project [(neg null)] (scan t)", none},
		{19, 0, "project [(not null)] (scan t)", none},
		{19, 0, "project [(and null true) (neg #1)] (scan t)", none},
		{19, 0, "project [(neg #1) (and null true)] (scan t)", "project [#-1 (and null true)] (scan t)"},
		{19, 0, "join (eq #1 #2) (scan t) (scan u)", "join false (scan t) (scan u)"},
		{19, 0, "left (eq null #2) (scan t) (scan u)", "left null (scan t) (scan u)"},
		{19, 0, "semi (eq 3 (add #1 #2)) (scan t) (scan u)", "semi (eq 3 #3) (scan t) (scan u)"},
		{19, 0, "anti (isnull (isnull 'x')) (scan t) (scan u)", "anti (isnull false) (scan t) (scan u)"},
		{19, 0, "group [(neg #1)] [(sum (neg #2))] (scan t)", "group [#-1] [(sum (neg #2))] (scan t)"},
		{19, 0, "group [0] [countall (count 0) (sum (add 0 (neg #2))) (max (neg #3))] (scan t)", "group [0] [countall (count 0) (sum (add 0 #-2)) (max (neg #3))] (scan t)"},
		{19, 0, "group [] [(count (eq null #1))] (scan t)", "group [] [(count null)] (scan t)"},
		{19, 0, "group [] [(sum (neg null))] (scan t)", "group [] [(sum null)] (scan t)"},
		{19, 0, "group [0 (isnull (neg null))] [] (scan t)", "group [0 (isnull null)] [] (scan t)"},
		{19, 0, "group [(neg null)] [] (scan t)", none},
		{19, 0, "group [] [(max (eq null #1)) (count (neg #1))] (scan t)", none},
		{19, 0, "group [] [(min (neg null))] (scan t)", none},
		{19, 0, "group [0] [countall (count #1)] (scan t)", none},
		{19, 0, "distinct (select (eq #1 #1) (scan t))", none},
		{19, 1, "distinct (select (eq #1 #1) (scan t))", "distinct (select true (scan t))"},
		{19, 0, "select 2 (select (eq #1 #1) (scan t))", none},
		{19, 0, "seek t #1 null", none},
		{19, 0, "scan t", none},
		{19, 0, "union (project [(neg #1)] (scan t)) (project [(neg #1)] (scan t))", none},
		{19, 3, "union (project [(neg #1)] (scan t)) (project [(neg #1)] (scan t))", "union (project [(neg #1)] (scan t)) (project [#-1] (scan t))"},
		{19, 1, "sort [0] (project [(neg #1)] (scan t))", "sort [0] (project [#-1] (scan t))"},
	})
}
