package mean_test

import (
	"math"
	"testing"

	"touchmark/api"
	"touchmark/mean"
)

func agg(op int, args ...api.Term) api.Agg { return api.Agg{Op: op, Args: args} }

func scan(t string) api.Plan { return api.Plan{Op: api.PlanScan, Table: t} }

func seek(t string, low, high api.Term) api.Plan {
	return api.Plan{Op: api.PlanSeek, Table: t, Terms: []api.Term{low, high}}
}

// one is a plan with one other in it, two one with two.
func one(op int, p api.Plan, terms ...api.Term) api.Plan {
	return api.Plan{Op: op, Args: []api.Plan{p}, Terms: terms}
}

func two(op int, a, b api.Plan, terms ...api.Term) api.Plan {
	return api.Plan{Op: op, Args: []api.Plan{a, b}, Terms: terms}
}

func project(p api.Plan, terms ...api.Term) api.Plan { return one(api.PlanProject, p, terms...) }

func choose(p api.Plan, t api.Term) api.Plan { return one(api.PlanSelect, p, t) }

func group(p api.Plan, terms []api.Term, aggs ...api.Agg) api.Plan {
	return api.Plan{Op: api.PlanGroup, Args: []api.Plan{p}, Terms: terms, Aggs: aggs}
}

// sorted is a plan's rows in the order of columns; a negative number stands for the column ~number, down.
func sorted(p api.Plan, columns ...int) api.Plan {
	s := one(api.PlanSort, p)
	for _, c := range columns {
		s.Keys = append(s.Keys, api.Key{Col: max(c, ^c), Down: c < 0})
	}
	return s
}

func limit(p api.Plan, n int64) api.Plan {
	return api.Plan{Op: api.PlanLimit, Args: []api.Plan{p}, N: n}
}

// ran is a plan, and what is asked for.
type ran struct {
	p    api.Plan
	want string
}

func wantRuns(t *testing.T, s api.State, l []ran) {
	t.Helper()
	for i, c := range l {
		rows, e := mean.Run(s, c.p)
		if got := told(rows, e); got != c.want {
			t.Errorf("plan %d: %s, not %s", i, got, c.want)
		}
	}
}

// P14.3: the rows of tables, whole and between keys.
func TestStored(t *testing.T) {
	s := base(t)
	key := func(n int64) api.Term { return num(n) }
	wantRuns(t, s, []ran{
		{scan("t"), "1 'x'; 2 null; 3 'x'"}, {scan("o"), ""},
		{scan("u"), "null 5; 1 5; 1 5; 2 null; 9 -1"}, {scan("w"), "'' false 2; 'b' null 3; 'b' true 1; 'b' true 7"},
		{seek("t", val(null), val(null)), "1 'x'; 2 null; 3 'x'"}, {seek("t", key(2), val(null)), "2 null; 3 'x'"}, {seek("t", val(null), key(2)), "1 'x'; 2 null"}, {seek("t", key(2), key(2)), "2 null"}, {seek("t", key(1), key(3)), "1 'x'; 2 null; 3 'x'"}, {seek("t", key(3), key(1)), ""}, {seek("t", key(4), val(null)), ""}, {seek("t", key(0), key(0)), ""}, {seek("t", key(math.MinInt64), key(math.MaxInt64)), "1 'x'; 2 null; 3 'x'"},
		{seek("w", key(2), key(3)), "'' false 2; 'b' null 3"}, {seek("w", key(3), val(null)), "'b' null 3; 'b' true 7"}, {seek("w", val(null), key(1)), "'b' true 1"},
	})
	texts := state(t, "create table t (a bool, b text primary key)", "insert into t values (true, ''), (null, 'a'), (false, 'ab'), (true, 'b')")
	wantRuns(t, texts, []ran{
		{seek("t", val(letters("a")), val(letters("ab"))), "null 'a'; false 'ab'"}, {seek("t", val(letters("")), val(letters(""))), "true ''"}, {seek("t", val(null), val(letters("aa"))), "null 'a'; true ''"}, {seek("t", val(letters("aa")), val(null)), "false 'ab'; true 'b'"},
	})
	bools := state(t, "create table t (a bool primary key)", "insert into t values (true), (false)")
	wantRuns(t, bools, []ran{{seek("t", val(yes), val(null)), "true"}, {seek("t", val(null), val(no)), "false"}, {seek("t", val(no), val(yes)), "false; true"}, {seek("t", val(yes), val(no)), ""}})
}

// P14.3: rows for which a condition is true, and rows of terms.
func TestSelectAndProject(t *testing.T) {
	isX, isNull := op(api.OpEq, col(1), val(letters("x"))), op(api.OpIsNull, col(1))
	wantRuns(t, base(t), []ran{
		{choose(scan("t"), isX), "1 'x'; 3 'x'"}, {choose(scan("t"), op(api.OpNot, isX)), ""}, {choose(scan("t"), isNull), "2 null"}, {choose(scan("t"), val(null)), ""}, {choose(scan("t"), val(no)), ""}, {choose(scan("t"), val(yes)), "1 'x'; 2 null; 3 'x'"}, {choose(scan("w"), col(1)), "'b' true 1; 'b' true 7"},
		{choose(scan("u"), op(api.OpEq, col(1), num(5))), "null 5; 1 5; 1 5"}, {choose(choose(scan("u"), op(api.OpNotNull, col(0))), op(api.OpEq, col(1), num(5))), "1 5; 1 5"},
		{project(scan("t"), col(1)), "null; 'x'; 'x'"}, {project(scan("t"), col(1), col(0), col(1)), "null 2 null; 'x' 1 'x'; 'x' 3 'x'"}, {project(scan("u"), op(api.OpSub, num(0), col(0))), "null; -9; -2; -1; -1"}, {project(scan("u"), val(yes)), "true; true; true; true; true"}, {project(scan("o"), num(1)), ""},
		{project(project(scan("t"), op(api.OpMul, col(0), col(0))), op(api.OpAdd, col(0), num(1)), col(0)), "2 1; 5 4; 10 9"}, {project(scan("t"), val(null), op(api.OpEq, num(1), num(1))), "null true; null true; null true"},
		{choose(project(scan("u"), col(1)), op(api.OpGt, col(0), num(0))), "5; 5; 5"},
	})
}

// P14.3: joins of all kinds, over equal rows, NULLs and no rows.
func TestJoins(t *testing.T) {
	first := op(api.OpEq, col(0), col(2))
	all := func(kind int, right string, x api.Term) api.Plan { return two(kind, scan("t"), scan(right), x) }
	wantRuns(t, base(t), []ran{
		{all(api.PlanJoin, "u", first), "1 'x' 1 5; 1 'x' 1 5; 2 null 2 null"}, {two(api.PlanJoin, scan("u"), scan("t"), first), "1 5 1 'x'; 1 5 1 'x'; 2 null 2 null"},
		{all(api.PlanLeft, "u", first), "1 'x' 1 5; 1 'x' 1 5; 2 null 2 null; 3 'x' null null"}, {two(api.PlanLeft, scan("u"), scan("t"), first), "null 5 null null; 1 5 1 'x'; 1 5 1 'x'; 2 null 2 null; 9 -1 null null"},
		{all(api.PlanSemi, "u", first), "1 'x'; 2 null"}, {all(api.PlanAnti, "u", first), "3 'x'"}, {two(api.PlanSemi, scan("u"), scan("t"), first), "1 5; 1 5; 2 null"}, {two(api.PlanAnti, scan("u"), scan("t"), first), "null 5; 9 -1"},
		{two(api.PlanJoin, scan("u"), scan("u"), op(api.OpAnd, op(api.OpEq, col(0), num(1)), first)), "1 5 1 5; 1 5 1 5; 1 5 1 5; 1 5 1 5"}, {two(api.PlanSemi, scan("u"), scan("u"), op(api.OpEq, col(1), col(3))), "null 5; 1 5; 1 5; 9 -1"}, {two(api.PlanAnti, scan("u"), scan("u"), op(api.OpEq, col(1), col(3))), "2 null"},
		// No condition but one that is true is enough: NULL is not.
		{all(api.PlanJoin, "t", op(api.OpEq, col(1), val(null))), ""}, {all(api.PlanLeft, "t", val(null)), "1 'x' null null; 2 null null null; 3 'x' null null"}, {all(api.PlanSemi, "t", val(null)), ""}, {all(api.PlanAnti, "t", val(null)), "1 'x'; 2 null; 3 'x'"}, {all(api.PlanAnti, "t", val(no)), "1 'x'; 2 null; 3 'x'"},
		// One side or both without rows.
		{all(api.PlanJoin, "o", val(yes)), ""}, {all(api.PlanLeft, "o", val(yes)), "1 'x' null null; 2 null null null; 3 'x' null null"}, {all(api.PlanSemi, "o", val(yes)), ""}, {all(api.PlanAnti, "o", val(yes)), "1 'x'; 2 null; 3 'x'"},
		{two(api.PlanJoin, scan("o"), scan("t"), val(yes)), ""}, {two(api.PlanLeft, scan("o"), scan("t"), val(yes)), ""}, {two(api.PlanSemi, scan("o"), scan("t"), val(yes)), ""}, {two(api.PlanAnti, scan("o"), scan("t"), val(yes)), ""}, {two(api.PlanLeft, scan("o"), scan("o"), val(yes)), ""},
		// The right columns' number is that of the right plan, whatever it is.
		{two(api.PlanLeft, project(scan("t"), col(0)), project(scan("o"), num(1), num(2), num(3)), val(yes)), "1 null null null; 2 null null null; 3 null null null"}, {two(api.PlanLeft, seek("t", num(1), num(1)), two(api.PlanLeft, scan("o"), scan("w"), val(yes)), val(yes)), "1 'x' null null null null null"}, {two(api.PlanLeft, seek("t", num(1), num(1)), group(scan("o"), []api.Term{col(0)}, agg(api.OpCountAll), agg(api.OpMax, col(1))), val(yes)), "1 'x' null null null"}, {two(api.PlanLeft, seek("t", num(1), num(1)), two(api.PlanSemi, scan("w"), scan("o"), val(yes)), val(yes)), "1 'x' null null null"},
		// Joins of joins.
		{two(api.PlanJoin, all(api.PlanJoin, "u", first), scan("t"), op(api.OpLt, col(2), col(4))), "1 'x' 1 5 2 null; 1 'x' 1 5 2 null; 1 'x' 1 5 3 'x'; 1 'x' 1 5 3 'x'; 2 null 2 null 3 'x'"}, {two(api.PlanLeft, scan("t"), all(api.PlanJoin, "u", first), op(api.OpLt, col(0), col(2))), "1 'x' 2 null 2 null; 2 null null null null null; 3 'x' null null null null"}, {two(api.PlanJoin, all(api.PlanLeft, "o", val(no)), all(api.PlanSemi, "u", first), op(api.OpEq, col(0), col(4))), "1 'x' null null 1 'x'; 2 null null null 2 null"},
	})
}

// P14.3: groups, of equal values or of all rows.
func TestGroups(t *testing.T) {
	five := []api.Agg{agg(api.OpCountAll), agg(api.OpCount, col(0)), agg(api.OpSum, col(0)), agg(api.OpMin, col(0)), agg(api.OpMax, col(0))}
	wantRuns(t, base(t), []ran{
		{group(scan("u"), nil, five...), "5 4 13 1 9"}, {group(scan("u"), []api.Term{col(1)}, five...), "null 1 1 2 2 2; -1 1 1 9 9 9; 5 3 2 2 1 1"}, {group(scan("o"), nil, five...), "0 0 null null null"}, {group(scan("o"), []api.Term{col(0)}, five...), ""}, {group(choose(scan("u"), op(api.OpIsNull, col(0))), nil, five...), "1 0 null null null"},
		{group(scan("u"), []api.Term{col(0)}), "null; 1; 2; 9"}, {group(scan("u"), []api.Term{col(0), col(1)}), "null 5; 1 5; 2 null; 9 -1"}, {group(scan("u"), []api.Term{num(7)}), "7"}, {group(scan("o"), []api.Term{num(7)}), ""}, {group(scan("u"), []api.Term{num(7)}, agg(api.OpCountAll)), "7 5"}, {group(scan("u"), []api.Term{col(1), col(1)}, agg(api.OpCountAll)), "null null 1; -1 -1 1; 5 5 3"}, {group(scan("u"), []api.Term{op(api.OpIsNull, col(0)), op(api.OpRem, col(0), num(2))}, agg(api.OpCountAll)), "false 0 1; false 1 3; true null 1"},
		{group(scan("w"), []api.Term{col(0)}, agg(api.OpMin, col(1)), agg(api.OpMax, col(1)), agg(api.OpMin, col(2)), agg(api.OpMax, col(0))), "'' false false 2 ''; 'b' true true 1 'b'"}, {group(scan("w"), nil, agg(api.OpMin, col(0)), agg(api.OpMax, col(0)), agg(api.OpMin, col(1)), agg(api.OpMax, col(1)), agg(api.OpCount, col(1))), "'' 'b' false true 3"},
		{group(scan("u"), nil, agg(api.OpSum, op(api.OpMul, col(0), col(1))), agg(api.OpCount, num(1)), agg(api.OpCount, val(null)), agg(api.OpSum, val(null)), agg(api.OpCountAll)), "1 5 0 null 5"}, {group(group(scan("u"), []api.Term{col(1)}, agg(api.OpCountAll)), []api.Term{col(1)}, agg(api.OpCountAll), agg(api.OpMax, col(0))), "1 2 -1; 3 1 5"}, {group(scan("t"), []api.Term{col(1)}, agg(api.OpSum, col(0)), agg(api.OpCount, col(1))), "null 2 0; 'x' 4 2"},
		{project(choose(group(scan("u"), []api.Term{col(1)}, agg(api.OpCountAll)), op(api.OpGt, col(1), num(1))), col(0)), "5"},
	})
	wide := state(t, "create table t (a int)", "insert into t values (9223372036854775807), (1), (-1), (-1), (null)")
	wantRuns(t, wide, []ran{{group(scan("t"), nil, agg(api.OpSum, col(0))), "9223372036854775806"}, {group(choose(scan("t"), op(api.OpGt, col(0), num(0))), nil, agg(api.OpSum, col(0))), "error 30"}, {group(scan("t"), []api.Term{col(0)}, agg(api.OpSum, col(0))), "null null; -1 -2; 1 1; 9223372036854775807 9223372036854775807"}})
}

// P14.3: what is in both plans, in the left one oftener, and what is different.
func TestSets(t *testing.T) {
	a, d := project(scan("u"), col(0)), project(scan("u"), col(1))
	ones := project(scan("t"), num(1))
	wantRuns(t, base(t), []ran{
		{two(api.PlanUnion, a, d), "null; null; -1; 1; 1; 2; 5; 5; 5; 9"}, {two(api.PlanUnion, d, a), "null; null; -1; 1; 1; 2; 5; 5; 5; 9"}, {two(api.PlanUnion, a, a), "null; null; 1; 1; 1; 1; 2; 2; 9; 9"}, {two(api.PlanUnion, scan("o"), scan("t")), "1 'x'; 2 null; 3 'x'"}, {two(api.PlanUnion, scan("o"), scan("o")), ""},
		{two(api.PlanExcept, a, d), "1; 1; 2; 9"}, {two(api.PlanExcept, d, a), "-1; 5; 5; 5"}, {two(api.PlanExcept, a, a), ""}, {two(api.PlanExcept, a, project(seek("t", num(1), num(2)), num(1))), "null; 2; 9"}, {two(api.PlanExcept, a, project(seek("t", num(1), num(1)), num(1))), "null; 1; 2; 9"}, {two(api.PlanExcept, a, ones), "null; 2; 9"}, {two(api.PlanExcept, ones, a), "1"}, {two(api.PlanExcept, two(api.PlanUnion, a, a), a), "null; 1; 1; 2; 9"}, {two(api.PlanExcept, a, project(scan("t"), val(null))), "1; 1; 2; 9"}, {two(api.PlanExcept, scan("o"), scan("t")), ""}, {two(api.PlanExcept, scan("t"), scan("o")), "1 'x'; 2 null; 3 'x'"},
		{one(api.PlanDistinct, a), "null; 1; 2; 9"}, {one(api.PlanDistinct, scan("u")), "null 5; 1 5; 2 null; 9 -1"}, {one(api.PlanDistinct, scan("o")), ""}, {one(api.PlanDistinct, two(api.PlanUnion, a, d)), "null; -1; 1; 2; 5; 9"}, {one(api.PlanDistinct, ones), "1"}, {two(api.PlanUnion, one(api.PlanDistinct, a), one(api.PlanDistinct, a)), "null; null; 1; 1; 2; 2; 9; 9"},
	})
}

// P14.3: rows in an order, and the first ones of them.
func TestSorts(t *testing.T) {
	u, w := scan("u"), scan("w")
	wantRuns(t, base(t), []ran{
		{sorted(u), "null 5; 1 5; 1 5; 2 null; 9 -1"}, {sorted(u, 1), "2 null; 9 -1; null 5; 1 5; 1 5"}, {sorted(u, ^1), "null 5; 1 5; 1 5; 9 -1; 2 null"}, {sorted(u, ^0), "9 -1; 2 null; 1 5; 1 5; null 5"}, {sorted(u, ^1, ^0), "1 5; 1 5; null 5; 9 -1; 2 null"}, {sorted(u, 1, ^0), "2 null; 9 -1; 1 5; 1 5; null 5"}, {sorted(u, 0, ^0), "null 5; 1 5; 1 5; 2 null; 9 -1"}, {sorted(u, ^0, 0), "9 -1; 2 null; 1 5; 1 5; null 5"}, {sorted(scan("o"), 0), ""},
		{sorted(w, ^0), "'b' null 3; 'b' true 1; 'b' true 7; '' false 2"}, {sorted(w, 0, ^1), "'' false 2; 'b' true 1; 'b' true 7; 'b' null 3"}, {sorted(w, 1), "'b' null 3; '' false 2; 'b' true 1; 'b' true 7"}, {sorted(w, ^2), "'b' true 7; 'b' null 3; '' false 2; 'b' true 1"}, {sorted(w, ^1, ^2), "'b' true 7; 'b' true 1; '' false 2; 'b' null 3"},
		{limit(sorted(u), 0), ""}, {limit(sorted(u), 1), "null 5"}, {limit(sorted(u), 2), "null 5; 1 5"}, {limit(sorted(u), 3), "null 5; 1 5; 1 5"}, {limit(sorted(u), 4), "null 5; 1 5; 1 5; 2 null"}, {limit(sorted(u), 5), "null 5; 1 5; 1 5; 2 null; 9 -1"}, {limit(sorted(u), 6), "null 5; 1 5; 1 5; 2 null; 9 -1"}, {limit(sorted(u), math.MaxInt64), "null 5; 1 5; 1 5; 2 null; 9 -1"}, {limit(sorted(u, ^1), 2), "null 5; 1 5"}, {limit(sorted(u, ^1, ^0), 1), "1 5"}, {limit(sorted(scan("o")), 3), ""}, {limit(sorted(two(api.PlanUnion, u, u), ^0), 3), "9 -1; 9 -1; 2 null"},
	})
}

// P14.3: errors in rows that nobody needs count, too; the smallest one is returned.
func TestErrorsInPlans(t *testing.T) {
	zero := op(api.OpDiv, num(1), num(0))
	overflow := op(api.OpNeg, num(math.MinInt64))
	fails := op(api.OpIsNull, zero)
	both := op(api.OpAnd, fails, op(api.OpIsNull, overflow))
	only := func(n int64) api.Term { return op(api.OpDiv, num(1), op(api.OpSub, col(0), num(n))) } // for the row with a = n alone
	tt, o := scan("t"), scan("o")
	wantRuns(t, base(t), []ran{
		{project(tt, zero), "error 31"}, {project(tt, overflow), "error 30"}, {project(tt, zero, overflow), "error 30"}, {project(tt, overflow, zero), "error 30"}, {project(tt, only(1)), "error 31"}, {project(tt, only(3)), "error 31"}, {project(tt, only(4)), "-1; 0; 0"}, {project(o, zero), ""},
		{choose(tt, fails), "error 31"}, {choose(tt, both), "error 30"}, {choose(tt, op(api.OpOr, val(yes), fails)), "error 31"}, {choose(tt, op(api.OpAnd, val(no), fails)), "error 31"}, {choose(o, both), ""}, {choose(choose(tt, val(no)), fails), ""}, {choose(project(tt, only(2)), val(no)), "error 31"},
		{project(choose(tt, fails), overflow), "error 30"}, {project(project(tt, zero), overflow), "error 30"}, {project(project(tt, zero), num(1)), "error 31"}, {project(project(tt, overflow), num(1)), "error 30"}, {project(choose(tt, op(api.OpGt, zero, num(0))), overflow), "error 31"},
		// All pairs, also behind the first that is found, and for those that are not kept.
		{two(api.PlanJoin, tt, tt, only(3)), "error 22"}, {two(api.PlanJoin, tt, tt, op(api.OpIsNull, only(3))), "error 31"}, {two(api.PlanSemi, tt, tt, op(api.OpNotNull, op(api.OpDiv, num(1), op(api.OpSub, col(2), num(3))))), "error 31"}, {two(api.PlanAnti, tt, tt, op(api.OpNotNull, op(api.OpDiv, num(1), op(api.OpSub, col(2), num(3))))), "error 31"}, {two(api.PlanLeft, tt, tt, op(api.OpOr, val(yes), fails)), "error 31"}, {two(api.PlanAnti, tt, tt, op(api.OpOr, val(yes), fails)), "error 31"}, {two(api.PlanJoin, tt, o, both), ""}, {two(api.PlanJoin, o, tt, both), ""}, {two(api.PlanLeft, tt, o, both), "1 'x' null null; 2 null null null; 3 'x' null null"}, {two(api.PlanAnti, tt, o, both), "1 'x'; 2 null; 3 'x'"},
		// Both sides, also if the other one has no rows.
		{two(api.PlanJoin, project(tt, zero), o, val(yes)), "error 31"}, {two(api.PlanJoin, o, project(tt, zero), val(yes)), "error 31"}, {two(api.PlanLeft, o, project(tt, zero), val(yes)), "error 31"}, {two(api.PlanSemi, o, project(tt, zero), val(yes)), "error 31"}, {two(api.PlanAnti, project(tt, zero), o, val(yes)), "error 31"}, {two(api.PlanUnion, project(tt, num(1)), project(tt, zero)), "error 31"}, {two(api.PlanUnion, project(tt, zero), project(tt, overflow)), "error 30"}, {two(api.PlanExcept, project(o, num(1)), project(tt, zero)), "error 31"}, {two(api.PlanExcept, project(tt, overflow), project(tt, zero)), "error 30"}, {two(api.PlanExcept, project(tt, zero), project(tt, zero)), "error 31"},
		// In groups, and around them.
		{group(tt, []api.Term{zero}), "error 31"}, {group(tt, nil, agg(api.OpCount, zero)), "error 31"}, {group(tt, []api.Term{zero}, agg(api.OpMax, overflow)), "error 30"}, {group(tt, []api.Term{overflow}, agg(api.OpMax, zero)), "error 30"}, {group(o, []api.Term{zero}, agg(api.OpMax, overflow)), ""}, {group(o, nil, agg(api.OpMax, overflow)), "null"}, {group(tt, nil, agg(api.OpSum, num(math.MaxInt64))), "error 30"}, {group(tt, []api.Term{col(0)}, agg(api.OpSum, num(math.MaxInt64))), "1 9223372036854775807; 2 9223372036854775807; 3 9223372036854775807"}, {group(tt, []api.Term{col(1)}, agg(api.OpSum, num(math.MaxInt64))), "error 30"}, {group(project(tt, zero), nil, agg(api.OpSum, num(math.MaxInt64))), "error 30"}, {choose(group(tt, nil, agg(api.OpSum, num(math.MaxInt64))), op(api.OpGt, op(api.OpDiv, col(0), num(0)), num(1))), "error 30"}, {choose(group(tt, nil, agg(api.OpSum, num(math.MinInt64))), op(api.OpIsNull, col(0))), "error 30"},
		{one(api.PlanDistinct, project(tt, zero)), "error 31"}, {sorted(project(tt, zero), 0), "error 31"}, {limit(sorted(project(tt, only(3))), 0), "error 31"}, {limit(sorted(project(tt, only(3)), 0), 1), "error 31"}, {limit(sorted(project(o, zero)), 1), ""},
	})
}

// P14.3: the state's error comes first, then those of plan.Check, then those of the evaluation.
func TestOrderOfErrors(t *testing.T) {
	s := base(t)
	zero := op(api.OpDiv, num(1), num(0))
	fails := project(scan("t"), zero)
	wantRuns(t, s, []ran{
		{api.Plan{}, "error 5"}, {project(scan("t")), "error 5"}, {scan("nosuch"), "error 20"}, {scan(""), "error 20"}, {seek("u", num(1), num(1)), "error 24"}, {seek("t", val(letters("x")), num(1)), "error 22"}, {seek("t", zero, num(1)), "error 5"}, {choose(scan("t"), col(0)), "error 22"}, {project(scan("t"), col(2)), "error 2"}, {project(scan("t"), val(api.Value{Kind: 4})), "error 22"}, {two(api.PlanUnion, scan("t"), scan("w")), "error 23"}, {two(api.PlanUnion, scan("t"), scan("u")), "error 22"}, {sorted(scan("t"), 2), "error 2"}, {limit(scan("t"), 1), "error 5"}, {limit(sorted(scan("t")), -1), "error 5"}, {project(sorted(scan("t")), col(0)), "error 5"}, {sorted(sorted(scan("t"))), "error 5"}, {limit(limit(sorted(scan("t")), 1), 1), "error 5"}, {group(scan("t"), nil), "error 5"},
		{fails, "error 31"}, {project(fails, col(1)), "error 2"}, {two(api.PlanJoin, fails, scan("nosuch"), val(yes)), "error 20"}, {sorted(fails, 7), "error 2"}, {project(scan("t"), zero, op(api.OpAdd, num(1), val(yes))), "error 22"},
	})
	deep := scan("t")
	for range 47 {
		deep = one(api.PlanDistinct, deep)
	}
	wantRuns(t, s, []ran{{deep, "1 'x'; 2 null; 3 'x'"}, {one(api.PlanDistinct, deep), "error 13"}, {project(deep, zero), "error 13"}})
	s.Rows[3] = []api.Counted{{Row: api.Row{null, null}}}
	wantRuns(t, s, []ran{{scan("t"), "error 1"}, {fails, "error 1"}, {api.Plan{}, "error 1"}, {scan("nosuch"), "error 1"}, {one(api.PlanDistinct, deep), "error 1"}})
}
