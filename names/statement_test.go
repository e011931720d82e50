package names_test

import (
	"strconv"
	"strings"
	"testing"

	"touchmark/api"
	"touchmark/names"
)

// P12.3: a query as a statement has the errors of Query.
func TestDoQuery(t *testing.T) {
	for views := range 4 {
		wantStatements(t, views, []fault{
			{"select a from t order by a limit 3", api.OK},
			{"select a from t limit 3", api.ErrLimit},
			{"select distinct null, a, a from w where exists (select 1 from t)", api.OK},
			{"select 1, 2, 3, 4, 5, 6, 7, 8, 9 from u", api.OK},
			{"select a from nosuch", api.ErrName},
			{"commit", api.OK},
			{"abort", api.OK},
		})
	}
}

// P12.3: tables to be made.
func TestDoTable(t *testing.T) {
	wantStatements(t, 1, []fault{
		{"create table x (a int)", api.OK},
		{"create table a (a int, b text not null, c bool primary key)", api.OK},
		{"create table t (x int)", api.ErrTwice},
		{"create table w (x int)", api.ErrTwice},
		{"create table x (a int, a int)", api.ErrTwice},
		{"create table x (a int, b text, c int, a bool primary key)", api.ErrTwice},
		{"create table x (a int, b int, c int, d int, e int, f int, g int, h int)", api.OK},
		{"create table x (a int, b int, c int, d int, e int, f int, g int, h int, i int)", api.ErrMany},
		{"create table x (a int, a int, c int, d int, e int, f int, g int, h int, i int)", api.ErrMany},
		{"create table x (a int, b int, c int, d int, e int, f int, g int, a int)", api.ErrTwice},
		{"create table t (a int, b int, c int, d int, e int, f int, g int, h int, i int)", api.ErrTwice},
	})
}

// many are n tables, t0 and so on, each with the columns a int and b text.
func many(n int) []api.Table {
	var l []api.Table
	for i := range n {
		l = append(l, api.Table{Name: "t" + strconv.Itoa(i), Key: -1, Columns: []api.Column{{Name: "a", Kind: api.Int}, {Name: "b", Kind: api.Text}}})
	}
	return l
}

// P12.3: how many tables there may be that are not views, and how many views.
func TestMany(t *testing.T) {
	table, view := statement(t, "create table x (a int)"), statement(t, "create view x as select a from t0")
	twiceTable, twiceView := statement(t, "create table t0 (a int)"), statement(t, "create view t0 as select nosuch from t0")
	wrongTable, wrongView := statement(t, "create table x (a int, a int)"), statement(t, "create view x as select nosuch from t0")
	for n := 1; n < 20; n++ {
		for views := range n + 1 {
			l := many(n)
			wants := []struct {
				s    api.Statement
				full bool
				want api.Errno
			}{{table, n-views >= 8, api.OK}, {view, views >= 8, api.OK}, {twiceTable, false, api.ErrTwice}, {twiceView, false, api.ErrTwice}, {wrongTable, n-views >= 8, api.ErrTwice}, {wrongView, views >= 8, api.ErrName}}
			for i, c := range wants {
				if c.full {
					c.want = api.ErrMany
				}
				if e := names.Statement(l, views, c.s); e != c.want {
					t.Errorf("%d tables, %d views, statement %d: %d, not %d", n, views, i, e, c.want)
				}
			}
		}
	}
}

// P12.3: views to be made.
func TestDoView(t *testing.T) {
	wantStatements(t, 1, []fault{
		{"create view v as select a from t", api.OK},
		{"create view a as select * from w where a = 'x' and f > 1 or e", api.OK},
		{"create view v as select w.a, d from w join (select d from u union all select a from t where b > 'x') as x on f = d", api.OK},
		{"create view v as select a, count(*) as n from t group by a having count(*) > 1", api.OK},
		{"create view t as select a from t", api.ErrTwice},
		{"create view w as select nosuch from t", api.ErrTwice},
		{"create view v as select nosuch from t", api.ErrName},
		{"create view v as select a from t limit 1", api.ErrLimit},
		{"create view v as select a from v", api.ErrName},
		{"create view v as select a as x, a as y, a as z, a, b, c, b as d, b as e from t", api.OK},
		{"create view v as select a as x, a as y, a as z, a, b, c, b as d, b as e, b as f from t", api.ErrMany},
		{"create view v as select *, * from t", api.ErrTwice},
		{"create view v as select *, *, * from t", api.ErrMany},
		{"create view v as select 1, 2, 3, 4, 5, 6, 7, 8, 9 from t", api.ErrMany},
		{"create view v as select a, a, c + 1 from t", api.ErrKind},
		{"create view v as select a, a, a + 1 from t", api.ErrName},
		{"create view v as select 1, null from t", api.ErrName},
		{"create view v as select a + 1 as a, 2 from t", api.ErrName},
		{"create view v as select a, c, a from t", api.ErrTwice},
		{"create view v as select a as c, c from t", api.ErrTwice},
		{"create view v as select null as a, 1 as a from t", api.ErrTwice},
		{"create view v as select null as a, 1 as b from t", api.ErrKind},
		{"create view v as select distinct null as a from t", api.ErrKind},
		{"create view v as select distinct a, a from t", api.ErrTwice},
		{"create view v as select null as a from t union all select a from t", api.OK},
		{"create view v as select a from t union all select null from t", api.OK},
		{"create view v as select null as a from t union all select null from t", api.ErrKind},
		{"create view v as select distinct a from t", api.ErrView},
		{"create view v as select a from t order by a", api.ErrView},
		{"create view v as select a from t except all select a from t", api.ErrView},
		{"create view v as select a from (select distinct a from t) as x", api.ErrView},
		{"create view v as select a from t where a in (select f from w)", api.ErrView},
	})
}

// P12.3: rows to be inserted.
func TestDoInsert(t *testing.T) {
	wantStatements(t, 1, []fault{
		{"insert into t values (1, 'x', true)", api.OK},
		{"insert into t values (1 + 2 * -3, 'x', 1 = 2 or 'a' < 'b' and null)", api.OK},
		{"insert into t values (null, null, null), (1, null, false)", api.OK},
		{"insert into u values (null + 1, - -1)", api.OK},
		{"insert into nosuch values (1)", api.ErrName},
		{"insert into w values (nosuch)", api.ErrPlace},
		{"insert into nosuch values (count(*))", api.ErrName},
		{"insert into t values (1, 'x')", api.ErrCount},
		{"insert into t values (1, 'x', true, 1)", api.ErrCount},
		{"insert into t values (nosuch, 1)", api.ErrCount},
		{"insert into t values (1, 2, true), (1)", api.ErrKind},
		{"insert into t values (1), (1, 2, true)", api.ErrCount},
		{"insert into t values (1, 'x', true), (1)", api.ErrCount},
		{"insert into t values (1, 'x', true), ('x', 'x', true)", api.ErrKind},
		{"insert into t values ('x', nosuch, true)", api.ErrKind},
		{"insert into t values (nosuch, 1, true)", api.ErrName},
		{"insert into t values (1, 'x', 1)", api.ErrKind},
		{"insert into t values (true, 'x', true)", api.ErrKind},
		{"insert into t values (1 + 'x', nosuch, true)", api.ErrKind},
		{"insert into u values (a, 1)", api.ErrName},
		{"insert into u values (1, u.a)", api.ErrName},
		{"insert into u values (1, count(*))", api.ErrPlace},
		{"insert into u values (1, 1 + sum(nosuch))", api.ErrPlace},
		{"insert into u values (nosuch, sum(1))", api.ErrName},
		{"insert into t values (1, 'x', exists (select a from t))", api.ErrPlace},
		{"insert into t values (1, 'x', nosuch in (select a from t))", api.ErrPlace},
		{"insert into t values (1, 'x', 1 not in (select nosuch from nosuch))", api.ErrPlace},
	})
}

// P12.3: rows to be deleted.
func TestDoDelete(t *testing.T) {
	wantStatements(t, 1, []fault{
		{"delete from t", api.OK},
		{"delete from t where c", api.OK},
		{"delete from t where null", api.OK},
		{"delete from t where t.a = a and b is null and not t.c", api.OK},
		{"delete from nosuch where 1", api.ErrName},
		{"delete from w where 1", api.ErrPlace},
		{"delete from w", api.ErrPlace},
		{"delete from t where a", api.ErrKind},
		{"delete from t where 'x'", api.ErrKind},
		{"delete from t where nosuch", api.ErrName},
		{"delete from t where u.a = 1", api.ErrName},
		{"delete from t where 1 and nosuch", api.ErrName},
		{"delete from t where 1 and count(*)", api.ErrPlace},
		{"delete from t where nosuch and count(*)", api.ErrName},
		{"delete from t where count(*) > 1", api.ErrPlace},
		{"delete from t where max(nosuch)", api.ErrPlace},
		{"delete from t where exists (select a from t)", api.ErrPlace},
		{"delete from t where not exists (select nosuch from t)", api.ErrPlace},
		{"delete from t where c and a in (select a from u)", api.ErrPlace},
		{"delete from t where nosuch not in (select a from u)", api.ErrPlace},
	})
}

// P12.3: rows to be updated.
func TestDoUpdate(t *testing.T) {
	wantStatements(t, 1, []fault{
		{"update t set a = 1", api.OK},
		{"update t set a = a + t.a, b = null, c = a > 1 or c where c", api.OK},
		{"update t set a = null, b = b", api.OK},
		{"update nosuch set a = nosuch", api.ErrName},
		{"update w set nosuch = 1", api.ErrPlace},
		{"update t set nosuch = 1", api.ErrName},
		{"update t set d = 'x' + 1, a = 'x'", api.ErrName},
		{"update t set a = 'x', d = 1", api.ErrKind},
		{"update t set a = 1, b = 'x', a = 1", api.ErrTwice},
		{"update t set a = 1, a = nosuch", api.ErrTwice},
		{"update t set a = nosuch, a = 1", api.ErrName},
		{"update t set nosuch = 1, nosuch = 1", api.ErrName},
		{"update t set a = 1, b = 2, a = 1", api.ErrKind},
		{"update t set a = b", api.ErrKind},
		{"update t set c = a", api.ErrKind},
		{"update t set a = d", api.ErrName},
		{"update t set a = u.a", api.ErrName},
		{"update t set a = count(*)", api.ErrPlace},
		{"update t set a = 1 + max(nosuch)", api.ErrPlace},
		{"update t set c = exists (select a from t)", api.ErrPlace},
		{"update t set c = nosuch in (select a from t)", api.ErrPlace},
		{"update t set a = 'x' where nosuch", api.ErrKind},
		{"update t set a = nosuch where a", api.ErrName},
		{"update t set a = 1 where a", api.ErrKind},
		{"update t set a = 1 where nosuch = 1", api.ErrName},
		{"update t set a = 1 where 1 and nosuch", api.ErrName},
		{"update t set a = 1 where count(*) > 1", api.ErrPlace},
		{"update t set a = 1 where exists (select a from t)", api.ErrPlace},
		{"update t set a = 1 where c and t.a not in (select nosuch from t)", api.ErrPlace},
	})
}

// P12.3: tables that are views, those at the end, can be read only.
func TestViews(t *testing.T) {
	for views := range 4 {
		for i, name := range []string{"t", "u", "w"} {
			want := api.OK
			if i >= 3-views {
				want = api.ErrPlace
			}
			for _, src := range []string{"delete from X", "update X set a = null", "insert into X values (null, null, null)"} {
				f := fault{strings.ReplaceAll(src, "X", name), want}
				if name == "u" {
					f.src = strings.ReplaceAll(f.src, "(null, null, null)", "(null, null)")
				}
				wantStatements(t, views, []fault{f, {"select 1 from " + name, api.OK}})
			}
		}
	}
}

// P12.3: print.Check's error is ahead of all others, then a list of tables that is not valid, then the number of views.
func TestStatementErrors(t *testing.T) {
	good, bad := statement(t, "commit"), statement(t, "insert into nosuch values (1)")
	for views, want := range map[int]api.Errno{-1 << 63: api.ErrArg, -1: api.ErrArg, 0: api.OK, 1: api.OK, 3: api.OK, 4: api.ErrArg, 1<<63 - 1: api.ErrArg} {
		if e := names.Statement(tables(), views, good); e != want {
			t.Errorf("%d views: %d", views, e)
		}
		if e := names.Statement(tables(), views, api.Statement{}); e != api.ErrForm {
			t.Errorf("%d views, no statement: %d", views, e)
		}
		if e := names.Statement(tables(), views, bad); e != want && (want != api.OK || e != api.ErrName) {
			t.Errorf("%d views, an insert: %d", views, e)
		}
	}
	if e := names.Statement(nil, 0, good); e != api.OK {
		t.Errorf("no tables: %d", e)
	}
	if e := names.Statement(nil, 1, good); e != api.ErrArg {
		t.Errorf("no tables, one view: %d", e)
	}
	wrong := tables()
	wrong[2].Key = 3
	for s, want := range map[*api.Statement]api.Errno{&good: api.ErrArg, &bad: api.ErrArg, {}: api.ErrForm, {Op: api.DoAbort, Name: "t"}: api.ErrForm, {Op: 9}: api.ErrForm, {Op: api.DoDelete}: api.ErrName} {
		if e := names.Statement(wrong, 0, *s); e != want {
			t.Errorf("%+v over wrong tables: %d", *s, e)
		}
	}
}
