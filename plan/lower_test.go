package plan_test

import (
	"strconv"
	"strings"
	"testing"

	"touchmark/api"
	"touchmark/names"
	"touchmark/plan"
)

func wantPlans(t *testing.T, l [][2]string) {
	t.Helper()
	for _, x := range l {
		wantPlan(t, x[0], x[1])
	}
}

// P13.1: sources are joined from left to right; On is read over the sources up to its own.
func TestSources(t *testing.T) {
	wantPlans(t, [][2]string{
		{"select * from t", "project [0, 1, 2] (scan t)"},
		{"select * from t as x join t as y on x.a = y.a left join u on y.a = d", "project [0, 1, 2, 3, 4, 5, 6, 7] (left [(eq 3 7)] (join [(eq 0 3)] (scan t) (scan t)) (scan u))"},
		{"select y.b, x.b, y.c from t as x join t as y on x.c", "project [4, 1, 5] (join [2] (scan t) (scan t))"},
		{"select e from t join u as v on b is null join t as x on true join w on x.b = w.a", "project [9] (join [(eq 6 8)] (join [true] (join [(isnull 1)] (scan t) (scan u)) (scan t)) (scan w))"},
		{"select t.d from t as u left join u as t on t.a = u.a", "project [4] (left [(eq 3 0)] (scan t) (scan u))"},
		{"select n, d from (select a + 1 as n, b from t where c) as s join u on n = u.a", "project [0, 3] (join [(eq 0 2)] (project [(add 0 #1), 1] (select [2] (scan t))) (scan u))"},
		{"select s.c, s.a from (select t.c, t.a from t) as s", "project [0, 1] (project [2, 0] (scan t))"},
		{"select d, k from u join (select a as k from t union all select d from u) as s on d = k", "project [1, 2] (join [(eq 1 2)] (scan u) (union (project [0] (scan t)) (project [1] (scan u))))"},
		{"select * from (select *, a from (select b, a as k from t) as x join u on k = a) as y", "project [0, 1, 2, 3, 4] (project [0, 1, 2, 3, 2] (join [(eq 1 2)] (project [1, 0] (scan t)) (scan u)))"},
		{"select y.a from (select a from t) as x left join (select a from u) as y on y.a = x.a", "project [1] (left [(eq 1 0)] (project [0] (scan t)) (project [0] (scan u)))"},
	})
}

// P13.1: the items of a select, values of all kinds, and all operators.
func TestItems(t *testing.T) {
	wantPlans(t, [][2]string{
		{"select *, c, * from t", "project [0, 1, 2, 2, 0, 1, 2] (scan t)"},
		{"select 1, -1, 'it''s', '', true, false, null from t", "project [#1, #-1, 'it's', '', true, false, null] (scan t)"},
		{"select -a, a + 1, a - 2, a * 3, a / 4, a % 5, -(-a) from t", "project [(neg 0), (add 0 #1), (sub 0 #2), (mul 0 #3), (div 0 #4), (rem 0 #5), (neg (neg 0))] (scan t)"},
		{"select a = 1, a <> 1, a < 1, a <= 1, a > 1, a >= 1 from t", "project [(eq 0 #1), (ne 0 #1), (lt 0 #1), (le 0 #1), (gt 0 #1), (ge 0 #1)] (scan t)"},
		{"select not c, c and a = 1 and c, c or c, b is null, (a > 1) is not null from t", "project [(not 2), (and (and 2 (eq 0 #1)) 2), (or 2 2), (isnull 1), (notnull (gt 0 #1))] (scan t)"},
		{"select distinct b, t.b from t", "distinct (project [1, 1] (scan t))"},
	})
}

// P13.1: the conjuncts of Where without queries are one condition, combined from the left, ahead of those with one.
func TestWhere(t *testing.T) {
	wantPlans(t, [][2]string{
		{"select a from t where c", "project [0] (select [2] (scan t))"},
		{"select a from t where null", "project [0] (select [null] (scan t))"},
		{"select a from t where c and (a = 1 and (b = 'x' and a < 5))", "project [0] (select [(and (and (and 2 (eq 0 #1)) (eq 1 'x')) (lt 0 #5))] (scan t))"},
		{"select a from t where (c and a = 1) and (c and not c)", "project [0] (select [(and (and (and 2 (eq 0 #1)) 2) (not 2))] (scan t))"},
		{"select a from t where c and a = 1 or c and not (c and c)", "project [0] (select [(or (and 2 (eq 0 #1)) (and 2 (not (and 2 2))))] (scan t))"},
		{"select a from t where exists (select d from u) and c and (a in (select d from u) and a < 5)", "project [0] (semi [(eq 0 4)] (semi [true] (select [(and 2 (lt 0 #5))] (scan t)) (scan u)) (scan u))"},
		{"select a from t where (not exists (select d from u) and c) and (c and exists (select e from w as u))", "project [0] (semi [true] (anti [true] (select [(and 2 2)] (scan t)) (scan u)) (scan w))"},
		{"select t.a from t join u on t.a = d where c", "project [0] (select [2] (join [(eq 0 4)] (scan t) (scan u)))"},
	})
}

// P13.1: exists and in, with and without a Where of their own.
func TestQueriesInWhere(t *testing.T) {
	wantPlans(t, [][2]string{
		{"select a from t where exists (select d from u)", "project [0] (semi [true] (scan t) (scan u))"},
		{"select a from t where exists (select d from u where d = t.a)", "project [0] (semi [(eq 4 0)] (scan t) (scan u))"},
		{"select a from t where not exists (select d from u)", "project [0] (anti [true] (scan t) (scan u))"},
		{"select a from t where not exists (select d from u where c)", "project [0] (anti [2] (scan t) (scan u))"},
		{"select a from t where a + 1 in (select -d from u)", "project [0] (semi [(eq (add 0 #1) (neg 4))] (scan t) (scan u))"},
		{"select a from t where a in (select a from u where d = t.a)", "project [0] (semi [(and (eq 0 3) (eq 4 0))] (scan t) (scan u))"},
		{"select a from t where a not in (select a from u)", "project [0] (anti [(or (isnull (eq 0 3)) (eq 0 3))] (scan t) (scan u))"},
		{"select a from t where a in (select a from u where a = 1 and (c and d = 2))", "project [0] (semi [(and (eq 0 3) (and (eq 3 #1) (and 2 (eq 4 #2))))] (scan t) (scan u))"},
		{"select a from t where a in (select t.a from u where d > a)", "project [0] (semi [(and (eq 0 0) (gt 4 3))] (scan t) (scan u))"},
		{"select x.a from t as x where x.b in (select b from t as x where x.a = 1)", "project [0] (semi [(and (eq 1 4) (eq 3 #1))] (scan t) (scan t))"},
		{"select u.a from t join u on t.a = d where exists (select 1 from w join u as v on d = f where v.a = t.a and t.c)", "project [3] (semi [(and (eq 8 0) 2)] (join [(eq 0 4)] (scan t) (scan u)) (join [(eq 4 2)] (scan w) (scan u)))"},
		{"select a from t where a in (select n from (select d + 1 as n from u where d > 0) as s left join u on u.a = n)", "project [0] (semi [(eq 0 3)] (scan t) (left [(eq 1 0)] (project [(add 1 #1)] (select [(gt 1 #0)] (scan u))) (scan u)))"},
		{"select a from t where exists (select *, 1 / 0 as z, a + 1 from u)", "project [0] (semi [true] (scan t) (scan u))"},
		{"select a from t where null in (select null from u) and a not in (select null from u where null)", "project [0] (anti [(and (or (isnull (eq 0 null)) (eq 0 null)) null)] (semi [(eq null null)] (scan t) (scan u)) (scan u))"},
		{"select d from (select d from u where d in (select a from t)) as s where exists (select b from t where a = d)", "project [0] (semi [(eq 1 0)] (project [1] (semi [(eq 1 2)] (scan u) (scan t))) (scan t))"},
		{"select a from t where exists (select x.a from (select a from t where a not in (select d from u)) as x where x.a = t.a)", "project [0] (semi [(eq 3 0)] (scan t) (project [0] (anti [(or (isnull (eq 0 4)) (eq 0 4))] (scan t) (scan u))))"},
	})
}

// P13.1: grouped queries: the aggregates are those of Items and then of Having; what is equal to one of Group is its column.
func TestGroups(t *testing.T) {
	wantPlans(t, [][2]string{
		{"select count(*) from t", "project [0] (group {countall} (scan t))"},
		{"select b from t group by b", "project [0] (group [1] (scan t))"},
		{"select c, b, c from t group by b, c", "project [1, 0, 1] (group [1, 2] (scan t))"},
		{"select 1 from t group by 1", "project [0] (group [#1] (scan t))"},
		{"select 2, a + 1 from t group by 1, a", "project [#2, (add 1 0)] (group [#1, 0] (scan t))"},
		{"select b, b is null from t group by b, b, b is null", "project [0, 2] (group [1, 1, (isnull 1)] (scan t))"},
		{"select a + 1, a + (a + 1), (a + 1) + 1, a from t group by a, a + 1", "project [1, (add 0 1), (add 1 #1), 0] (group [0, (add 0 #1)] (scan t))"},
		{"select t.a, a from t group by a, t.a", "project [1, 0] (group [0, 0] (scan t))"},
		{"select max(a), count(b), max(a) from t", "project [0, 1, 2] (group {max 0, count 1, max 0} (scan t))"},
		{"select count(*) + sum(a) * 2, -min(a) - count(*) from t", "project [(add 0 (mul 1 #2)), (sub (neg 2) 3)] (group {countall, sum 0, min 0, countall} (scan t))"},
		{"select max(a) from t group by b, c having min(a) > 0 and c and max(a) > count(*)", "project [2] (select [(and (and (gt 3 #0) 1) (gt 4 5))] (group [1, 2] {max 0, min 0, max 0, countall} (scan t)))"},
		{"select 1 from t having count(*) > 1", "project [#1] (select [(gt 0 #1)] (group {countall} (scan t)))"},
		{"select sum(a) from t group by a having a > sum(a)", "project [1] (select [(gt 0 2)] (group [0] {sum 0, sum 0} (scan t)))"},
		{"select sum(a + 1), sum(a), a + 1 from t group by a + 1", "project [1, 2, 0] (group [(add 0 #1)] {sum (add 0 #1), sum 0} (scan t))"},
		{"select distinct count(d) from t left join u on t.a = u.a where c and t.a in (select d from u) group by b", "distinct (project [1] (group [1] {count 4} (semi [(eq 0 6)] (select [2] (left [(eq 0 3)] (scan t) (scan u))) (scan u))))"},
		{"select n + 1 from (select b, count(*) as n from t group by b) as s where n > 1", "project [(add 1 #1)] (select [(gt 1 #1)] (project [0, 1] (group [1] {countall} (scan t))))"},
		{"select max(s.n) from (select count(*) as n from t group by b) as s", "project [0] (group {max 0} (project [1] (group [1] {countall} (scan t))))"},
		{"select b, 'x', null from t group by b", "project [0, 'x', null] (group [1] (scan t))"},
		// Nothing in the chapter puts anything into this group, although Check then asks for something.
		{"select 1 from t having true", "project [#1] (select [true] (group (scan t)))"},
	})
}

// P13.1: two parts; orders, and how many.
func TestPartsAndOrders(t *testing.T) {
	wantPlans(t, [][2]string{
		{"select a from t union all select d from u", "union (project [0] (scan t)) (project [1] (scan u))"},
		{"select a from t except all select d from u", "except (project [0] (scan t)) (project [1] (scan u))"},
		{"select a from t except all (select d from u union all select a from u)", "except (project [0] (scan t)) (union (project [1] (scan u)) (project [0] (scan u)))"},
		{"select distinct a from t union all select distinct a from t", "union (distinct (project [0] (scan t))) (distinct (project [0] (scan t)))"},
		{"select a, b from t order by b, a desc", "sort <1, 0 down> (project [0, 1] (scan t))"},
		{"select a, b as k from t order by k desc, k", "sort <1 down, 1> (project [0, 1] (scan t))"},
		{"select a from t order by a limit 0", "limit (sort <0> (project [0] (scan t)))"},
		{"select a from t order by a limit 9223372036854775807", "limit #9223372036854775807 (sort <0> (project [0] (scan t)))"},
		{"select d, a as k from u union all select x.a, f from t as x join w on true order by k limit 2", "limit #2 (sort <1> (union (project [1, 0] (scan u)) (project [0, 5] (join [true] (scan t) (scan w)))))"},
		{"select count(*) as n, b from t group by b order by n desc", "sort <0 down> (project [1, 0] (group [1] {countall} (scan t)))"},
		{"select distinct * from t order by c", "sort <2> (distinct (project [0, 1, 2] (scan t)))"},
	})
}

// P13.1: a query's error is that of names.Query.
func TestErrorsOfQueries(t *testing.T) {
	bad := tables()
	bad[0].Key = 1
	for _, c := range []struct {
		src string
		e   api.Errno
	}{
		{"select x from t", api.ErrName}, {"select a from nosuch", api.ErrName}, {"select a from t join u on true", api.ErrTwice}, {"select a from t where a", api.ErrKind},
		{"select a from t where c or exists (select d from u)", api.ErrPlace}, {"select a, count(*) from t", api.ErrGroup}, {"select a from t limit 1", api.ErrLimit},
		{"select a from t union all select a, a from t", api.ErrCount}, {"select a from t where a in (select * from t)", api.ErrCount},
	} {
		p, e := plan.Lower(tables(), query(t, c.src))
		if e != c.e || !plan.Same(p, api.Plan{}) {
			t.Errorf("%s: %s, %d, not %d", c.src, tell(p), e, c.e)
		}
		if _, e := plan.Lower(bad, query(t, c.src)); e != api.ErrArg {
			t.Errorf("%s over tables that are not valid: %d", c.src, e)
		}
	}
	if _, e := plan.Lower(bad, api.Query{}); e != api.ErrForm {
		t.Errorf("no query: %d", e)
	}
}

// balanced is a condition of that many conjuncts, nested no deeper than they must be.
func balanced(n int, conjunct string) string {
	if n == 1 {
		return conjunct
	}
	return "(" + balanced(n-n/2, conjunct) + " and " + balanced(n/2, conjunct) + ")"
}

// P13.1: at most 48 plans and terms may be nested in one another.
func TestDeepQueries(t *testing.T) {
	joins := func(n int, on string) string {
		s := "select 1 from u as u0"
		for i := range n {
			s += " join u as u" + strconv.Itoa(i+1) + " on " + on
		}
		return s
	}
	where := func(n int, conjunct string) string { return "select a from t where " + balanced(n, conjunct) }
	inside := func(n int) string {
		return "select a from t where exists (select d from u where " + balanced(n, "c") + ")"
	}
	exists := "exists (select d from u)"
	for _, c := range []struct {
		src string
		e   api.Errno
	}{
		{joins(46, "true"), api.OK}, {joins(47, "true"), api.ErrDeep}, {joins(99, "true"), api.ErrDeep},
		{joins(45, "u0.a = 1"), api.OK}, {joins(46, "u0.a = 1"), api.ErrDeep}, {joins(44, "-u0.a = 1"), api.OK}, {joins(45, "-u0.a = 1"), api.ErrDeep},
		{where(46, "c"), api.OK}, {where(47, "c"), api.ErrDeep}, {where(200, "c"), api.ErrDeep}, {strings.Replace(where(46, "c"), "a", "distinct a", 1), api.ErrDeep},
		{where(46, exists), api.OK}, {where(47, exists), api.ErrDeep}, {where(43, "a not in (select d from u)"), api.OK}, {where(44, "a not in (select d from u)"), api.ErrDeep},
		{inside(200), api.OK}, {where(1, "exists ("+joins(45, "true")+")"), api.OK}, {where(1, "exists ("+joins(46, "true")+")"), api.ErrDeep}, {where(2, "exists ("+joins(44, "true")+")"), api.OK}, {where(2, "exists ("+joins(45, "true")+")"), api.ErrDeep},
	} {
		q := query(t, c.src)
		if _, e := names.Query(tables(), q); e != api.OK {
			t.Fatalf("%s: %d", c.src, e)
		}
		p, e := plan.Lower(tables(), q)
		if e != c.e || e != api.OK && !plan.Same(p, api.Plan{}) {
			t.Errorf("%s: %d, not %d", c.src, e, c.e)
		}
		if _, f := plan.Check(tables(), p); e == api.OK && f != api.OK {
			t.Errorf("%s: its plan %d", c.src, f)
		}
	}
}
