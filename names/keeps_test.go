package names_test

import (
	"testing"

	"touchmark/api"
	"touchmark/names"
)

// P12.2: what is kept as a view, and what is not.
func TestKeeps(t *testing.T) {
	for src, want := range map[string]bool{
		"select a from t": true,
		"select a, count(*), 1 + max(b) from nosuch left join u on a = b where a and not b or c group by a, b having min(c)": true,
		"select a from t union all select b from u union all select c from v":                                                true,
		"select a from (select b from t union all select c from u) as x join (select d from v) as y on true":                 true,
		"select distinct a from t":                                                          false,
		"select a from t order by a":                                                        false,
		"select a from t limit 0":                                                           false,
		"select a from t order by a limit 3":                                                false,
		"select a from t union all select b from u order by a":                              false,
		"select a from t except all select b from u":                                        false,
		"select distinct a from t union all select b from u":                                false,
		"select a from t union all select distinct b from u":                                false,
		"select a from t except all select b from u union all select c from v":              false,
		"select a from t union all (select b from u except all select c from v)":            false,
		"select a from (select distinct a from t) as x":                                     false,
		"select a from t join (select a from t except all select b from u) as x on true":    false,
		"select a from t join (select a from (select distinct a from t) as y) as x on true": false,
	} {
		if names.Keeps(query(t, src)) != want {
			t.Errorf("%s: %v", src, !want)
		}
	}
	for _, x := range []string{"exists (select a from u)", "not exists (select a from u)", "a in (select a from u)", "b not in (select a from u)"} {
		for _, y := range []string{x, "not (" + x + ")", "c and (d or not (" + x + "))", "count((" + x + ") is null)"} {
			for _, src := range []string{"select " + y + " from t", "select a, " + y + " as k, b from t", "select a from t join u on " + y, "select a from t join u on c left join v on " + y, "select a from t where " + y, "select a from t group by " + y, "select a from t group by a, " + y, "select a from t having " + y} {
				for _, whole := range []string{src, src + " union all select a from t", "select a from t union all " + src, "select a from (" + src + ") as x", "select a from t join (" + src + ") as x on true", "select a from (select a from (" + src + " union all select a from t) as y) as x"} {
					if names.Keeps(query(t, whole)) {
						t.Errorf("%s: true", whole)
					}
				}
			}
		}
	}
}

// P12.2, R1: queries that are not well-formed, made by hand, are asked for the same things.
func TestKeepsOfAnything(t *testing.T) {
	asks := []api.Expr{{Args: []api.Expr{{}, {Op: 99, Args: []api.Expr{{Op: api.OpNotIn}}}}}}
	has := []api.Expr{{}, {Op: api.OpName, Query: make([]api.Query, 1)}}
	distinct := api.Query{Op: 77, Select: api.Select{Distinct: true}}
	for i, q := range []api.Query{
		{Op: api.QueryExcept}, {Op: -1, Limited: true}, {Order: make([]api.Order, 1)}, distinct,
		{Parts: []api.Query{{}, {}, distinct}}, {Op: api.QuerySelect, Parts: []api.Query{distinct}},
		{Op: api.QueryUnion, Parts: make([]api.Query, 2), Select: api.Select{Distinct: true}},
		{Select: api.Select{From: []api.Source{{}, {Query: []api.Query{{}, distinct}}}}},
		{Select: api.Select{From: []api.Source{{On: asks}}}}, {Select: api.Select{From: []api.Source{{}, {On: has}}}},
		{Select: api.Select{Items: []api.Item{{}, {Star: true, Expr: has[1]}}}}, {Select: api.Select{Items: []api.Item{{Expr: asks[0]}}}},
		{Select: api.Select{Where: asks}}, {Select: api.Select{Where: has}}, {Select: api.Select{Group: asks}}, {Select: api.Select{Group: has}}, {Select: api.Select{Having: asks}}, {Select: api.Select{Having: has}},
		{Op: api.QueryUnion, Select: api.Select{Where: asks}},
		{Parts: []api.Query{{Select: api.Select{From: []api.Source{{Query: []api.Query{{Select: api.Select{Group: asks}}}}}}}}},
	} {
		if names.Keeps(q) {
			t.Errorf("query %d: %+v: true", i, q)
		}
	}
	for i, q := range []api.Query{
		{}, {Op: -5}, {Op: 99, Limit: 7, Parts: make([]api.Query, 5)},
		{Select: api.Select{Items: make([]api.Item, 3), From: make([]api.Source, 3), Where: make([]api.Expr, 3), Group: make([]api.Expr, 3), Having: make([]api.Expr, 3)}},
		{Select: api.Select{Items: []api.Item{{Star: true, Name: "x", Expr: api.Expr{Op: api.OpMax, Args: make([]api.Expr, 4)}}}}},
		{Select: api.Select{Where: []api.Expr{{Op: 30}, {Op: -1 << 63}, {Op: 24}, {Op: 1<<63 - 1}}}},
	} {
		if !names.Keeps(q) {
			t.Errorf("query %d: %+v: false", i, q)
		}
	}
}
