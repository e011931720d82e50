package mean_test

import (
	"slices"
	"testing"

	"touchmark/api"
	"touchmark/mean"
	"touchmark/names"
	"touchmark/plan"
)

// P14.4: queries of all kinds.
func TestQueries(t *testing.T) {
	wantQueries(t, base(t), [][2]string{
		{"select * from t", "1 'x'; 2 null; 3 'x'"}, {"select a, d from u", "null 5; 1 5; 1 5; 2 null; 9 -1"}, {"select distinct d from u", "null; -1; 5"}, {"select -a, a * 2 - 1 from t where a <> 2", "-3 5; -1 1"},
		{"select t.a, d from t join u on t.a = u.a", "1 5; 1 5; 2 null"}, {"select t.a, d from t left join u on t.a = u.a", "1 5; 1 5; 2 null; 3 null"}, {"select x.a, y.a from t as x join t as y on x.a < y.a where y.b is not null", "1 3; 2 3"}, {"select s.n from (select b, count(*) as n from t group by b) as s left join o on true", "1; 2"},
		{"select a from t where exists (select d from u where u.a = t.a)", "1; 2"}, {"select a from t where not exists (select d from u where u.a = t.a)", "3"}, {"select a from t where exists (select a from o)", ""}, {"select a from t where not exists (select a from o)", "1; 2; 3"},
		{"select a from t where a in (select a from u)", "1; 2"}, {"select a from t where a not in (select a from u)", ""}, {"select a from t where a not in (select a from u where a is not null)", "3"}, {"select a from t where a not in (select a from o)", "1; 2; 3"}, {"select a from t where a in (select a from u where d > 0) and b = 'x'", "1"}, {"select f from w where a in (select b from t) or true", "error 24"},
		{"select d, count(*), count(a), sum(a), min(a), max(a) from u group by d", "null 1 1 2 2 2; -1 1 1 9 9 9; 5 3 2 2 1 1"}, {"select d from u group by d having count(*) > 1", "5"}, {"select count(*) from o", "0"}, {"select max(b) from o having count(*) = 0", "null"}, {"select d + 1, sum(a) + count(*) from u where d is not null group by d + 1", "0 10; 6 5"}, {"select b from t group by b having sum(a) > 9", ""},
		{"select a from t union all select d from u", "null; -1; 1; 2; 3; 5; 5; 5"}, {"select a from u except all select a from t", "null; 1; 9"}, {"select a from t union all select null from o", "1; 2; 3"},
		{"select b, a from t order by b desc, a desc", "'x' 3; 'x' 1; null 2"}, {"select a, d from u order by d, a desc limit 4", "2 null; 9 -1; 1 5; 1 5"}, {"select a from t order by a limit 0", ""}, {"select a from u union all select a from t order by a desc limit 3", "9; 3; 2"}, {"select count(*) as n from u group by d order by n desc limit 1", "3"},
		{"select e, f from w where e", "true 1; true 7"}, {"select not e, e and false, e or true from w where f = 3", "null false true"}, {"select a = a from u", "null; true; true; true; true"},
	})
}

// P14.4: the errors of queries, those of their form and those of their evaluation.
func TestErrorsOfQueries(t *testing.T) {
	s := base(t)
	wantQueries(t, s, [][2]string{
		{"select 1 from nosuch", "error 20"}, {"select nosuch from t", "error 20"}, {"select a from t join u on true", "error 21"}, {"select a + b from t", "error 22"}, {"select a from t union all select a, d from u", "error 23"}, {"select a from t where count(*) = 1", "error 24"}, {"select a, count(*) from t", "error 25"}, {"select a from t limit 3", "error 26"},
		{"select 1 / 0 from t", "error 31"}, {"select 1 / 0 from o", ""}, {"select 1 / 0 from nosuch", "error 20"}, {"select 9223372036854775807 + a, 1 / 0 from t", "error 30"}, {"select a from t where a = 1 and 1 / (a - 2) = 0", "error 31"}, {"select 9223372036854775807 + a from t where 1 / (a - 1) > 5", "error 31"}, {"select b, sum(9223372036854775807) from t group by b", "error 30"}, {"select a from t where a in (select 1 / (a - 9) from u)", "error 31"}, {"select a from t where exists (select 1 / 0 from u)", "1; 2; 3"},
		// Chapter 13 makes a PlanGroup of it that has neither Terms nor Aggs, for which plan.Check returns ErrForm.
		{"select 1 from t having true", "error 5"},
	})
	bad := query(t, "select nosuch from t")
	for i, q := range []api.Query{{}, {Op: api.QueryUnion}, bad, query(t, "select 1 / 0 from t")} {
		_, want := plan.Lower(s.Tables, q)
		if i == 3 {
			want = api.ErrDivide
		}
		if a, e := mean.Query(s, q); want == api.OK || e != want || a.Columns != nil || a.Rows != nil {
			t.Errorf("query %d: %d, not %d", i, e, want)
		}
		for _, wrong := range []api.State{{Tables: s.Tables}, {Tables: s.Tables[:1], Rows: [][]api.Counted{{{Row: api.Row{number(1), null}, Count: 2}}}}} {
			if a, e := mean.Query(wrong, q); e != api.ErrArg || a.Columns != nil || a.Rows != nil {
				t.Errorf("query %d over no state: %d", i, e)
			}
		}
	}
}

// P14.4: the columns are those of names.Query, also where there are no rows.
func TestColumnsOfQueries(t *testing.T) {
	s := base(t)
	for _, src := range []string{
		"select * from t", "select a as x, b, a + 1 from t", "select * from t as x left join u on true", "select a from o", "select null, 'x', true, count(*) from o", "select b as k, sum(a) from t group by b", "select a as n from t union all select null from t", "select null as n from t except all select a from u", "select a from t order by a limit 0",
	} {
		q := query(t, src)
		want, _ := names.Query(s.Tables, q)
		if a, e := mean.Query(s, q); e != api.OK || len(want) == 0 || !slices.Equal(a.Columns, want) {
			t.Errorf("%s: %v, %d, not %v", src, a.Columns, e, want)
		}
	}
}
