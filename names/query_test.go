package names_test

import (
	"strings"
	"testing"

	"touchmark/api"
	"touchmark/names"
	"touchmark/value"
)

// P12.1: the columns of a select's items: their names, and those of stars.
func TestItems(t *testing.T) {
	for src, want := range map[string]string{
		"select a, t.a, (a), a as a, a as k, b, c from t":               "a int, a int, a int, a int, k int, b text?, c bool?",
		"select 1, -a, a = 1, null, 1 as k, 'x' as l, null as m from t": "- int, - int, - bool, - null?, k int, l text, m null?",
		"select * from t":                                                         "a int, b text?, c bool?",
		"select *, a, * from u":                                                   "a int?, d int?, a int?, a int?, d int?",
		"select distinct d from u as d":                                           "d int?",
		"select x.a from t as x":                                                  "a int",
		"select * from t as x join u as y on x.a = d":                             "a int, b text?, c bool?, a int?, d int?",
		"select * from w as x left join w as y on x.f = y.f":                      "a text, e bool, f int, a text?, e bool?, f int?",
		"select * from w as x left join w as y on x.e join w as z on y.e and z.e": "a text, e bool, f int, a text?, e bool?, f int?, a text, e bool, f int",
		"select x.f + z.f, x.f + y.f, y.f from w as x left join w as y on x.e join w as z on true": "- int, - int?, f int?",
	} {
		wantColumns(t, src, want)
	}
}

// P12.1: a source that is a query has that query's columns.
func TestSourcesThatAreQueries(t *testing.T) {
	for src, want := range map[string]string{
		"select * from (select a + 1 from t) as x":                                                            "- int",
		"select * from (select a + 1, f as k from w as t join t as u on true) as x":                           "",
		"select * from (select t.a + 1, f as k from w join t on true) as x":                                   "- int, k int",
		"select k, x.k + 1 from (select null as k from t) as x":                                               "k null?, - int?",
		"select k from (select count(*) as k from t) as x":                                                    "k int",
		"select x.m, y.m from (select max(a) as m from t) as x join (select 1 as m from t) as y on x.m = y.m": "m int?, m int",
		"select * from w left join (select f as g from w) as y on f = g":                                      "a text, e bool, f int, g int?",
		"select * from (select a from t union all select f from w) as x":                                      "a int",
		"select * from (select * from (select * from u) as a) as b":                                           "a int?, d int?",
		"select * from (select b as a from t) as t":                                                           "a text?",
		"select a from t join (select d from u where exists (select 1 from w where f = d)) as x on a = d":     "a int",
	} {
		if want == "" {
			wantError(t, src, api.ErrTwice)
			continue
		}
		wantColumns(t, src, want)
	}
	wantErrors(t, []fault{
		{"select a from (select nosuch from t) as x", api.ErrName},
		{"select a from (select 1 as a from t having 1) as x", api.ErrKind},
		{"select t.a from (select a from t) as x", api.ErrName},
		{"select b from (select a from t) as x", api.ErrName},
		{"select a from (select a, a from t) as x", api.ErrTwice},
		{"select x.a from t as x join (select x.b from u) as y on true", api.ErrName},
	})
}

// P12.1: what a name refers to.
func TestNames(t *testing.T) {
	wantErrors(t, []fault{
		{"select d from t", api.ErrName},
		{"select t from t", api.ErrName},
		{"select nosuch.a from t", api.ErrName},
		{"select t.d from t join u on true", api.ErrName},
		{"select a from t join u on true", api.ErrTwice},
		{"select t.a, u.a, b, d from t join u on true", api.OK},
		{"select t.a from t as x", api.ErrName},
		{"select x.a from t as x", api.OK},
		{"select t.a from u as t", api.OK},
		{"select t.b from u as t", api.ErrName},
		{"select a from nosuch", api.ErrName},
		{"select nosuch.a from nosuch", api.ErrName},
		{"select x.k from (select a as k, d as k from u) as x", api.ErrTwice},
		{"select x.k from (select a as k, d as k from u) as x join (select 1 as k from t) as y on true", api.ErrTwice},
		{"select y.k from (select a as k, d as k from u) as x join (select 1 as k from t) as y on true", api.OK},
	})
}

// ofKinds are, for each kind, an expression of that kind over w left join w as x, and one that is nullable.
func ofKinds() [4][2]string {
	return [4][2]string{api.Null: {"null", "null"}, api.Int: {"w.f", "x.f"}, api.Text: {"w.a", "x.a"}, api.Bool: {"w.e", "x.e"}}
}

// operators are texts in which A and B stand for operands.
func operators() map[int]string {
	return map[int]string{
		api.OpNeg: "-A", api.OpNot: "not A", api.OpIsNull: "A is null", api.OpNotNull: "A is not null",
		api.OpAdd: "A + B", api.OpSub: "A - B", api.OpMul: "A * B", api.OpDiv: "A / B", api.OpRem: "A % B",
		api.OpEq: "A = B", api.OpNe: "A <> B", api.OpLt: "A < B", api.OpLe: "A <= B", api.OpGt: "A > B", api.OpGe: "A >= B",
		api.OpAnd: "A and B", api.OpOr: "A or B",
		api.OpCountAll: "count(*)", api.OpCount: "count(A)", api.OpSum: "sum(A)", api.OpMin: "min(A)", api.OpMax: "max(A)",
	}
}

// P12.1: the kinds of operators, for operands of all kinds, and whether they are nullable.
func TestOperators(t *testing.T) {
	for op, text := range operators() {
		for a, as := range ofKinds() {
			for b, bs := range ofKinds() {
				for n := range 4 {
					src := "select " + strings.NewReplacer("A", as[n/2], "B", bs[n%2]).Replace(text) + " as k from w left join w as x on w.f = x.f"
					kind, e := value.Result(op, a, b)
					nullable := strings.Contains(src[:strings.Index(src, " from")], "x.") || strings.Contains(src[:strings.Index(src, " from")], "null")
					switch op {
					case api.OpIsNull, api.OpNotNull, api.OpCountAll, api.OpCount:
						nullable = false
					case api.OpSum, api.OpMin, api.OpMax:
						nullable = true
					}
					l, f := names.Query(tables(), query(t, src))
					if f != e || e == api.OK && (len(l) != 1 || l[0] != api.Column{Name: "k", Kind: kind, Nullable: nullable}) {
						t.Errorf("%s: %s, %d", src, tell(l), f)
					}
				}
			}
		}
	}
}

// P12.1: constants.
func TestConstants(t *testing.T) {
	wantColumns(t, "select 5, -5, 'x', true, false, null, 1 / 0, 1 + null, null is null from t", "- int, - int, - text, - bool, - bool, - null?, - int, - int?, - bool")
	wantColumns(t, "select count(*) > 0, sum(f) is null, min(a), max(e), count(a) + 1, sum(f) + 1 from w", "- bool, - bool, - text?, - bool?, - int, - int?")
}

// P12.1: conditions are Bool or Null.
func TestConditions(t *testing.T) {
	for _, clause := range []string{"from t where X", "from t join u on X", "from t left join u on X", "from t where c and X", "from t where X and c", "from t where c and (X and c)"} {
		for x, want := range map[string]api.Errno{"c": api.OK, "null": api.OK, "t.a = 1": api.OK, "t.a is null": api.OK, "true": api.OK, "t.a": api.ErrKind, "b": api.ErrKind, "1": api.ErrKind, "'x'": api.ErrKind, "nosuch": api.ErrName, "count(*) > 0": api.ErrPlace, "c and nosuch": api.ErrName, "c and t.a": api.ErrKind} {
			wantError(t, "select 1 "+strings.ReplaceAll(clause, "X", x), want)
		}
	}
	wantErrors(t, []fault{
		{"select 1 from t having count(*) > 0", api.OK},
		{"select 1 from t having null", api.OK},
		{"select 1 from t having max(c)", api.OK},
		{"select 1 from t having count(*)", api.ErrKind},
		{"select 1 from t having min(b)", api.ErrKind},
		{"select 1 from t having 1", api.ErrKind},
	})
}

// P12.1: where aggregates may occur.
func TestAggregates(t *testing.T) {
	for op, text := range operators() {
		if op < api.OpCountAll {
			continue
		}
		x := strings.ReplaceAll(text, "A", "d")
		for _, src := range []string{"select X from u", "select X is null from u", "select 1 from u having X is null", "select 1 + (X + 1) from u", "select -X from u having X = X"} {
			wantError(t, strings.ReplaceAll(src, "X", x), api.OK)
		}
		wrong := x
		if op != api.OpCountAll {
			wrong = strings.ReplaceAll(text, "A", "nosuch")
		}
		for _, src := range []string{"select count(X) from u", "select max(1 + X) from u", "select 1 from u where X is null", "select 1 from u group by X", "select 1 from u group by d, 1 + X", "select 1 from u join t on X is null", "select 1 from u having sum(-X) is null", "select u.d from u where d in (select X from t)", "select u.d from u where exists (select 1 from t where X is null)", "select u.d from u where X in (select a from t)"} {
			wantError(t, strings.ReplaceAll(src, "X", x), api.ErrPlace)
			wantError(t, strings.ReplaceAll(src, "X", wrong), api.ErrPlace)
		}
	}
}

// P12.1: grouped queries.
func TestGroups(t *testing.T) {
	wantColumns(t, "select b, count(*) + 1 as n, max(c), 1, null from t group by b", "b text?, n int, - bool?, - int, - null?")
	wantColumns(t, "select a + 1, a + 1 + count(*), -(a + 1), (a + 1) * sum(a) from t group by a + 1", "- int, - int, - int, - int?")
	wantColumns(t, "select 1 from t group by a", "- int")
	wantColumns(t, "select t.a from t group by t.a, b having b = 'x' and count(b) = t.a", "a int")
	wantColumns(t, "select a, b, a = 1, b is null from t group by b, a", "a int, b text?, - bool, - bool")
	wantErrors(t, []fault{
		{"select a from t group by b", api.ErrGroup},
		{"select a from t group by t.a", api.ErrGroup},
		{"select t.a from t group by a", api.ErrGroup},
		{"select a + 2 from t group by a + 1", api.ErrGroup},
		{"select 1 + a from t group by a + 1", api.ErrGroup},
		{"select a - 1 from t group by a + 1", api.ErrGroup},
		{"select a from t group by a + 1", api.ErrGroup},
		{"select a + 1 from t group by a", api.OK},
		{"select a + -1 from t group by a + 1", api.ErrGroup},
		{"select a + -(1) from t group by a + -(1)", api.OK},
		{"select a = 1 from t group by a = true, a", api.ErrKind},
		{"select b = 'x' from t group by b = 'x'", api.OK},
		{"select b = 'y' from t group by b = 'x'", api.ErrGroup},
		{"select -a from t group by - -a", api.ErrGroup},
		{"select - -a from t group by -a", api.OK},
		{"select sum(a) + a from t", api.ErrGroup},
		{"select a, sum(a) from t", api.ErrGroup},
		{"select sum(a + b) from t", api.ErrKind},
		{"select sum(a), 1, 'x' from t", api.OK},
		{"select a from t having true", api.ErrGroup},
		{"select 1 from t having c", api.ErrGroup},
		{"select 1 from t group by c having c", api.OK},
		{"select 1 from t group by c having c and a = 1", api.ErrGroup},
		{"select sum(a) from t group by b having max(a) > 1", api.OK},
		{"select * from t group by a, b, c", api.ErrGroup},
		{"select count(*), * from t", api.ErrGroup},
		{"select *, count(*) from t", api.ErrGroup},
		{"select * from t having true", api.ErrGroup},
		{"select 1 + (2 * -count(*)), a from t", api.ErrGroup},
		{"select a from t where exists (select 1 from u where t.a = u.a) group by a", api.OK},
		{"select a from t group by nosuch", api.ErrName},
		{"select a from t group by a + 'x'", api.ErrKind},
		{"select a from t group by a, b, c, null, 1", api.OK},
		{"select a from t group by a in (select a from u)", api.ErrPlace},
		{"select a from t group by exists (select a from u)", api.ErrPlace},
	})
}

// P12.1: exists and in may be conjuncts of Where, and nothing else.
func TestPlacesOfQueries(t *testing.T) {
	for _, x := range []string{"exists (select 1 from w)", "not exists (select 1 from w)", "t.a in (select f from w)", "t.a not in (select f from w)"} {
		for _, src := range []string{"select b from t where X", "select b from t where X and c", "select b from t where c and X", "select b from t where X and X", "select b from t where (c and X) and (X and c)", "select b, count(*) from t where X group by b having true", "select b from (select b from t where X) as y", "select b from t where X union all select b from t where X", "select b from t where exists (select a from (select t.a from t where X) as y)"} {
			wantError(t, strings.ReplaceAll(src, "X", x), api.OK)
		}
		for _, src := range []string{"select X from t", "select 1 from t join u on X", "select 1 from t group by X", "select 1 from t having X", "select count(X) from t", "select 1 from t where not (X)", "select 1 from t where (X) or c", "select 1 from t where c and (c or X)", "select 1 from t where (X) = c", "select 1 from t where (X) is null", "select b from t where exists (select 1 from t where X)", "select b from t where exists (select 1 from t where c and X)", "select b from t where exists (select X from t)", "select b from t where exists (select 1 from t join w on X)", "select b from t where a in (select a from t where X)", "select b from t where (X) in (select c from t)"} {
			wantError(t, strings.ReplaceAll(src, "X", x), api.ErrPlace)
			wantError(t, strings.ReplaceAll(src, "X", strings.NewReplacer("t.a", "nosuch", "w)", "nosuch)").Replace(x)), api.ErrPlace)
		}
	}
}

// P12.1: the queries of exists and in.
func TestQueriesOfConjuncts(t *testing.T) {
	for _, x := range []string{"exists", "not exists", "a in", "a not in"} {
		for in, want := range map[string]api.Errno{
			"select a from u":                            api.OK,
			"select null from u":                         api.OK,
			"select d as k from u as t where t.a = 1":    api.OK,
			"select distinct a from u":                   api.ErrPlace,
			"select a from u group by a":                 api.ErrPlace,
			"select 1 from u having true":                api.ErrPlace,
			"select count(*) from u":                     api.ErrPlace,
			"select 1 + -sum(a) from u":                  api.ErrPlace,
			"select a from u union all select a from u":  api.ErrPlace,
			"select a from u except all select a from u": api.ErrPlace,
			"select a from (select distinct a from u group by a having count(*) > 1 union all select a from t) as x": api.OK,
			"select a from nosuch":           api.ErrName,
			"select nosuch from u":           api.ErrName,
			"select a from u where nosuch":   api.ErrName,
			"select a from u where 1":        api.ErrKind,
			"select a from u where null":     api.OK,
			"select a + 'x' from u":          api.ErrKind,
			"select d from u join w on true": api.OK,
			"select d from u join u on true": api.ErrTwice,
			"select a from u join w on true": api.ErrTwice,
		} {
			wantError(t, "select a from t where "+x+" ("+in+")", want)
		}
	}
	wantErrors(t, []fault{
		{"select a from t where exists (select * from u)", api.OK},
		{"select a from t where exists (select *, a, *, 1, b, null from u)", api.OK},
		{"select a from t where not exists (select * from u where nosuch = 1)", api.ErrName},
		{"select a from t where a in (select * from u)", api.ErrCount},
		{"select a from t where a in (select * from (select d from u) as x)", api.ErrCount},
		{"select a from t where a not in (select *, a from u)", api.ErrCount},
		{"select a from t where a not in (select a, d from u)", api.ErrCount},
		{"select a from t where a in (select b from t)", api.ErrKind},
		{"select a from t where b in (select a from u)", api.ErrKind},
		{"select a from t where c not in (select a from u)", api.ErrKind},
		{"select a from t where b not in (select a from w)", api.OK},
		{"select a from t where null in (select a from w)", api.OK},
		{"select a from t where 'x' in (select null from w)", api.OK},
		{"select a from t where nosuch in (select a from w)", api.ErrName},
		{"select a from t where a + b in (select a from w)", api.ErrKind},
	})
}

// P12.1: what names refer to within the queries of exists and in.
func TestNamesWithinConjuncts(t *testing.T) {
	wantErrors(t, []fault{
		{"select a from t where exists (select 1 from w where a = 'x')", api.OK},
		{"select a from t where exists (select 1 from w where a = 1)", api.ErrKind},
		{"select a from t where exists (select 1 from w where t.a = 1 and w.a = 'x')", api.OK},
		{"select a from t where exists (select 1 from w where f = 1 and b = a)", api.OK},
		{"select a from t where exists (select 1 from t where t.a = 1)", api.OK},
		{"select t.a from t join u on true where exists (select 1 from w where a = 'x')", api.OK},
		{"select t.a from t join u on true where exists (select f from w where d = f)", api.OK},
		{"select x.a from t as x join u on true where exists (select 1 from (select 2 as z from t) as y where a = 1)", api.ErrTwice},
		{"select b from t where exists (select 1 from u join w on true where a = 1)", api.ErrTwice},
		{"select b from t where exists (select 1 from u join w on true where t.a = 1)", api.OK},
		{"select b from t where exists (select 1 from u where nosuch = 1)", api.ErrName},
		{"select b from t where exists (select 1 from u where nosuch.a = 1)", api.ErrName},
		{"select b from t where exists (select 1 from u where t.d = 1)", api.ErrName},
		{"select b from t where exists (select b from u)", api.OK},
		{"select b from t where exists (select t.b, c and true from u)", api.OK},
		{"select b from t where b in (select b from u)", api.OK},
		{"select b from t where a in (select b from u)", api.ErrKind},
		{"select b from t where a in (select t.a + u.a from u)", api.OK},
		{"select b from t where u.a in (select u.a from u)", api.ErrName},
		{"select b from t where exists (select 1 from u join w on b = 'x')", api.ErrName},
		{"select b from t where exists (select 1 from u join w on t.a = 1)", api.ErrName},
		{"select b from t where exists (select 1 from u join w on d = f)", api.OK},
		{"select b from t where exists (select 1 from (select b from u) as x)", api.ErrName},
		{"select b from t where exists (select 1 from (select 1 from u where t.a = 1) as x)", api.ErrName},
		{"select b from t where exists (select 1 from (select 1 from u where exists (select 1 from w where d = f)) as x)", api.OK},
		{"select b from t where exists (select 1 from (select 1 from u where exists (select 1 from w where t.c)) as x)", api.ErrName},
		{"select b from t where exists (select 1 from u) and d = 1", api.ErrName},
		{"select d from t where exists (select 1 from u)", api.ErrName},
	})
}

// P12.1: the columns of two parts.
func TestParts(t *testing.T) {
	for src, want := range map[string]string{
		"select a, b from t OP select d, 'x' from u":                             "a int?, b text?",
		"select a from t OP select f from w":                                     "a int",
		"select f as x from w OP select d as y from u":                           "x int?",
		"select d as x from u OP select f as y from w":                           "x int?",
		"select null as x from w OP select f from w":                             "x int?",
		"select f from w OP select null as x from w":                             "f int?",
		"select null from w OP select null as x from w":                          "- null?",
		"select null from w OP select a from w":                                  "- text?",
		"select null from w OP select null as x from w OP select e from w":       "- bool?",
		"select * from w OP (select * from w OP select null, null, null from t)": "a text?, e bool?, f int?",
		"select f, f from w OP select 1 as a, 2 as a from w":                     "f int, f int",
		"select a from t OP select f from w order by a desc limit 1":             "a int",
	} {
		for _, op := range []string{"union all", "except all"} {
			wantColumns(t, strings.ReplaceAll(src, "OP", op), want)
		}
	}
	for _, f := range []fault{
		{"select a from t OP select b from t", api.ErrKind},
		{"select b, c from t OP select b, a from t", api.ErrKind},
		{"select a, b from t OP select a from t", api.ErrCount},
		{"select a from t OP select a, b from t", api.ErrCount},
		{"select a from t OP select b, a from t", api.ErrCount},
		{"select nosuch from t OP select a from t", api.ErrName},
		{"select a from t OP select nosuch from t", api.ErrName},
		{"select a from t OP select null from t OP select b from t", api.ErrKind},
		{"select a, b from t OP select a, b from t where 1", api.ErrKind},
	} {
		for _, op := range []string{"union all", "except all"} {
			wantError(t, strings.ReplaceAll(f.src, "OP", op), f.e)
		}
	}
}

// P12.1: orders and limits.
func TestOrders(t *testing.T) {
	wantErrors(t, []fault{
		{"select a, b as k from t order by k, a desc, k desc", api.OK},
		{"select a as k from t order by k limit 0", api.OK},
		{"select a as k from t order by a", api.ErrName},
		{"select a from t order by b", api.ErrName},
		{"select a, 1 from t order by a", api.OK},
		{"select a as k, b as k, c from t order by c", api.OK},
		{"select a as k, b as k, c from t order by k", api.ErrTwice},
		{"select a, a from t order by a", api.ErrTwice},
		{"select t.a from t order by a", api.OK},
		{"select t.a from t order by t.a", api.ErrPlace},
		{"select a from t order by nosuch.nosuch", api.ErrPlace},
		{"select a from t order by 1", api.ErrPlace},
		{"select a from t order by -a", api.ErrPlace},
		{"select a from t order by count(*)", api.ErrPlace},
		{"select a from t order by exists (select a from t)", api.ErrPlace},
		{"select a, b from t order by a, nosuch, 1", api.ErrName},
		{"select a, b from t order by a, 1, nosuch", api.ErrPlace},
		{"select a from t limit 0", api.ErrLimit},
		{"select a from t union all select f from w limit 1", api.ErrLimit},
		{"select a from t union all select f from w order by a limit 1", api.OK},
		{"select a from t union all select f from w order by f", api.ErrName},
		{"select * from t order by b", api.OK},
		{"select * from t join u on true order by a", api.ErrTwice},
		{"select nosuch from t limit 1", api.ErrName},
		{"select a from t union all select b from t limit 1", api.ErrKind},
	})
}

// P12.1: the first of several errors in the chapter's order: each source has what is to be told first ahead of, or behind, what is to be told later.
func TestOrderOfErrors(t *testing.T) {
	wantErrors(t, []fault{
		// source by source: its own error, ErrTwice, On
		{"select 1 from nosuch join t on 1", api.ErrName},
		{"select 1 from t as x join nosuch as x on 1", api.ErrName},
		{"select 1 from t as x join (select a from t where 1) as x on nosuch", api.ErrKind},
		{"select 1 from t join t on 1", api.ErrTwice},
		{"select 1 from t join u as t on nosuch", api.ErrTwice},
		{"select 1 from t join u on 1 join nosuch on true", api.ErrKind},
		{"select 1 from t join u on w.f = 1 join w on true", api.ErrName},
		{"select 1 from t join u on true join w on w.f = t.a", api.OK},
		{"select 1 from t join u on u.d = t.a join w on true", api.OK},
		{"select 1 from t join u on true join t on 1", api.ErrTwice},
		// the clauses
		{"select 1 from t join u on 1 where nosuch", api.ErrKind},
		{"select nosuch from t where 1", api.ErrKind},
		{"select 1 from t where 1 group by nosuch", api.ErrKind},
		{"select nosuch from t group by a + 'x'", api.ErrKind},
		{"select a from t group by count(a), nosuch", api.ErrPlace},
		{"select 1 + 'x' from t having nosuch", api.ErrKind},
		{"select a from t having nosuch", api.ErrGroup},
		{"select nosuch from t group by b having 1", api.ErrName},
		// item by item: its own errors, then ErrGroup
		{"select a, nosuch from t group by b", api.ErrGroup},
		{"select *, nosuch from t group by b", api.ErrGroup},
		{"select nosuch, * from t group by b", api.ErrName},
		{"select a + nosuch from t group by b", api.ErrName},
		{"select nosuch + a from t group by b", api.ErrName},
		{"select a + 'x' from t group by b", api.ErrKind},
		{"select a + b, 1 from t having true", api.ErrKind},
		{"select 1 from t having a", api.ErrKind},
		{"select 1 from t having a = 'x'", api.ErrKind},
		{"select 1 from t having a = nosuch", api.ErrName},
		// operands from left to right, ahead of the operator
		{"select nosuch + (1 + 'x') from t", api.ErrName},
		{"select (1 + 'x') + nosuch from t", api.ErrKind},
		{"select 'x' + nosuch from t", api.ErrName},
		{"select count(*) + nosuch from t", api.ErrName},
		{"select count(count(nosuch)) + nosuch from t", api.ErrPlace},
		{"select nosuch + count(count(1)) from t", api.ErrName},
		{"select sum(nosuch + b) from t", api.ErrName},
		// conjunct by conjunct
		{"select 1 from t where 1 and nosuch", api.ErrKind},
		{"select 1 from t where nosuch and 1", api.ErrName},
		{"select 1 from t where (1 and nosuch) = true", api.ErrName},
		{"select 1 from t where c and (1 and nosuch)", api.ErrKind},
		{"select 1 from t where exists (select 1 from u where 1) and nosuch", api.ErrKind},
		{"select 1 from t where nosuch and exists (select 1 from u where 1)", api.ErrName},
		// within a conjunct: the operand, ErrPlace, sources, Where as one condition, ErrCount, items, ErrKind
		{"select 1 from t where a + 'x' in (select distinct a from nosuch)", api.ErrKind},
		{"select 1 from t where a in (select distinct a from nosuch)", api.ErrPlace},
		{"select 1 from t where a in (select a from nosuch group by a)", api.ErrPlace},
		{"select 1 from t where a in (select a, d from u join t on 1)", api.ErrKind},
		{"select 1 from t where a in (select a from nosuch where 1)", api.ErrName},
		{"select 1 from t where a in (select a, d from u where nosuch)", api.ErrName},
		{"select 1 from t where a in (select a, d from u where 1 and nosuch)", api.ErrName},
		{"select 1 from t where exists (select 1 from u where 1 and nosuch)", api.ErrName},
		{"select 1 from t where exists (select 1 from u where 1 and c)", api.ErrKind},
		{"select 1 from t where exists (select 1 from u where exists (select 1 from nosuch) and 1)", api.ErrPlace},
		{"select 1 from t where exists (select nosuch from u where 1)", api.ErrKind},
		{"select 1 from t where a in (select nosuch, 1 from u)", api.ErrCount},
		{"select 1 from t where a in (select *, nosuch from u)", api.ErrCount},
		{"select 1 from t where exists (select a + 'x', nosuch from u)", api.ErrKind},
		{"select 1 from t where exists (select *, nosuch, a + 'x' from u)", api.ErrName},
		{"select 1 from t where b in (select nosuch + 1 from u)", api.ErrName},
		// parts
		{"select a + 'x' from t union all select nosuch from t", api.ErrKind},
		{"select nosuch from t union all select a + 'x' from t", api.ErrName},
		{"select a, b from t union all select nosuch from t", api.ErrName},
		{"select b, a from t union all select a from t", api.ErrCount},
		{"select b from t union all select a from t order by nosuch", api.ErrKind},
		{"select nosuch from t order by 1", api.ErrName},
	})
}
