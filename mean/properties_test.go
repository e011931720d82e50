package mean_test

import (
	"slices"
	"strconv"
	"testing"

	"touchmark/api"
	"touchmark/mean"
	"touchmark/plan"
	"touchmark/value"
)

// statements are queries without errors of form over the tables t, u, w and o, of which made by chance have rows of any values.
func statements() []string {
	return []string{
		"select * from t", "select a + 1, b from t where a > 0", "select 2 / a from t", "select distinct d, a from u", "select u.a, b from u left join t on u.a = t.a", "select x.b, y.d from t as x join u as y on x.a <= y.d where x.b is not null",
		"select d, count(*), sum(a), min(a), max(a) from u group by d", "select b from t group by b having count(*) > 1", "select count(b), max(b) from t where a < 2", "select a from u union all select f from w", "select a from u except all select a from t", "select d from u except all select d from u where a is null",
		"select a from t where exists (select f from w where w.a = b and f > t.a)", "select a, b from t where b in (select a from w where e)", "select d from u where d not in (select a from t)", "select a from u where not exists (select f from w where f = u.a) and d > 0",
		"select e, f from w order by e desc, f limit 2", "select * from u order by d, a desc", "select s.n, k from (select a as k, count(*) as n from u group by a) as s join t on s.n = t.a", "select sum(f * f) from w", "select -f from w where not e or e is null", "select x.a from u as x left join (select a, b from t where b > 'x') as y on y.a = x.d where y.b is null",
	}
}

// madeState makes up rows for those tables.
func madeState(t *testing.T, m *maker) api.State {
	s := base(t)
	for i, x := range s.Tables {
		s.Rows[i] = m.rows(x)
	}
	return s
}

// P14.4: queries over rows by chance are what the model says of their plans.
func TestQueriesByChance(t *testing.T) {
	n := map[api.Errno]int{}
	var queries []api.Query
	for _, src := range statements() {
		queries = append(queries, query(t, src))
	}
	for seed := range 1000 {
		s := madeState(t, newMaker(int64(seed)))
		for i, q := range queries {
			p, e := plan.Lower(s.Tables, q)
			if e != api.OK {
				t.Fatalf("%s: %d", statements()[i], e)
			}
			rows, f := modelRun(s, p)
			a, e := mean.Query(s, q)
			if told(a.Rows, e) != told(rows, f) {
				t.Fatalf("seed %d: %s over %+v: %s, not %s", seed, statements()[i], s.Rows, told(a.Rows, e), told(rows, f))
			}
			n[e]++
		}
	}
	wantEnough(t, n, 300, api.OK, api.ErrOverflow, api.ErrDivide)
}

// shuffled is a state with its tables in any order, and with others between them.
func shuffled(m *maker, s api.State) api.State {
	var c api.State
	for _, i := range m.Perm(len(s.Tables)) {
		if m.maybe() {
			x := m.table("other" + strconv.Itoa(i))
			c.Tables, c.Rows = append(c.Tables, x), append(c.Rows, m.rows(x))
		}
		c.Tables, c.Rows = append(c.Tables, s.Tables[i]), append(c.Rows, s.Rows[i])
	}
	return c
}

// P14.5: neither the tables' order matters, nor tables that are not named.
func TestOtherStates(t *testing.T) {
	for seed := range 300 {
		m := newMaker(int64(seed))
		s := madeState(t, m)
		for _, src := range statements() {
			q := query(t, src)
			a, e := mean.Query(s, q)
			b, f := mean.Query(shuffled(m, s), q)
			if told(a.Rows, e) != told(b.Rows, f) || !slices.Equal(a.Columns, b.Columns) {
				t.Fatalf("seed %d: %s: %s, and %s", seed, src, told(a.Rows, e), told(b.Rows, f))
			}
		}
	}
	for seed := range 3000 {
		m := newMaker(int64(seed))
		p := m.plan()
		a, e := mean.Run(m.state, p)
		b, f := mean.Run(shuffled(m, m.state), p)
		if told(a, e) != told(b, f) {
			t.Fatalf("seed %d: %s, and %s", seed, told(a, e), told(b, f))
		}
	}
}

// P14.5: nor does it matter in which order tables and rows were created.
func TestOrderOfCreation(t *testing.T) {
	tables := []string{"create table t (a int primary key, b text)", "create table u (a int, d int)", "create table w (a text not null, e bool, f int primary key)"}
	rows := []string{"insert into t values (3, 'x')", "insert into t values (1, 'x'), (2, null)", "insert into u values (1, 5), (null, 5)", "insert into u values (1, 5), (9, -1)", "insert into w values ('b', true, 7)", "insert into w values ('', false, 2), ('b', null, 3)"}
	m := newMaker(1)
	first := state(t, slices.Concat(tables, rows)...)
	for range 20 {
		m.Shuffle(len(tables), func(i, k int) { tables[i], tables[k] = tables[k], tables[i] })
		m.Shuffle(len(rows), func(i, k int) { rows[i], rows[k] = rows[k], rows[i] })
		s := state(t, slices.Concat(tables, rows)...)
		for _, src := range statements() {
			a, e := mean.Query(first, query(t, src))
			b, f := mean.Query(s, query(t, src))
			if told(a.Rows, e) != told(b.Rows, f) {
				t.Errorf("%s: %s, and %s", src, told(a.Rows, e), told(b.Rows, f))
			}
		}
	}
}

// P14.5: a PlanJoin is a PlanSelect over all pairs; a PlanLeft is that and the PlanAnti with NULLs; a PlanSemi and the PlanAnti together are the left rows.
func TestJoinsTogether(t *testing.T) {
	n := 0
	for seed := range 5000 {
		m := newMaker(int64(seed))
		m.left = 6
		left, a := m.inner()
		right, b := m.inner()
		m.left = 6
		x := m.term(api.Bool, slices.Concat(a, b))
		join, join1 := mean.Run(m.state, two(api.PlanJoin, left, right, x))
		pairs, pairs1 := mean.Run(m.state, choose(two(api.PlanJoin, left, right, val(yes)), x))
		if told(join, join1) != told(pairs, pairs1) {
			t.Fatalf("seed %d: %s, not %s", seed, told(join, join1), told(pairs, pairs1))
		}
		if join1 != api.OK {
			continue
		}
		semi, e := mean.Run(m.state, two(api.PlanSemi, left, right, x))
		anti, f := mean.Run(m.state, two(api.PlanAnti, left, right, x))
		rows, g := mean.Run(m.state, left)
		whole, h := mean.Run(m.state, two(api.PlanLeft, left, right, x))
		for _, r := range anti {
			join = append(join, slices.Concat(r, make(api.Row, len(b))))
		}
		if e != api.OK || f != api.OK || g != api.OK || h != api.OK || tellSorted(semi, anti) != tell(rows) || tellSorted(join) != tell(whole) {
			t.Fatalf("seed %d: %s and %s, not %s; %s, not %s", seed, tell(semi), tell(anti), tell(rows), tell(whole), tell(join))
		}
		if len(semi) > 0 && len(anti) > 0 {
			n++
		}
	}
	if n < 150 {
		t.Errorf("%d joins alone with both kinds of left rows", n)
	}
}

// tellSorted writes the rows of lists in ascending order.
func tellSorted(l ...[]api.Row) string {
	all := slices.Concat(l...)
	slices.SortFunc(all, value.CompareRows)
	return tell(all)
}
