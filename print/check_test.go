package print_test

import (
	"strconv"
	"strings"
	"testing"

	"touchmark/api"
	"touchmark/print"
)

func wantError(t *testing.T, what string, s api.Statement, want api.Errno) {
	t.Helper()
	if e := print.Check(s); e != want {
		t.Errorf("%s: Check: %d, want %d", what, e, want)
	}
	if text, e := print.Statement(s); e != want || (text == "") != (want != api.OK) {
		t.Errorf("%s: Statement: %q, %d, want %d", what, text, e, want)
	}
}

// wantQueryError asks for a query's error, also in the statements that have one.
func wantQueryError(t *testing.T, what string, q api.Query, want api.Errno) {
	t.Helper()
	if e := print.CheckQuery(q); e != want {
		t.Errorf("%s: CheckQuery: %d, want %d", what, e, want)
	}
	text, e := print.Query(q)
	if e != want || (text == "") != (want != api.OK) {
		t.Errorf("%s: Query: %q, %d, want %d", what, text, e, want)
	}
	wantError(t, what, api.Statement{Op: api.DoQuery, Query: q}, want)
	if want != api.ErrBytes && len("create view v as ")+len(text) <= 4096 {
		wantError(t, what, api.Statement{Op: api.DoView, Name: "v", Query: q}, want)
	}
}

// wantExprError asks for an expression's error wherever one can stand.
func wantExprError(t *testing.T, what string, x api.Expr, want api.Errno) {
	t.Helper()
	l := []api.Expr{x}
	for _, s := range []api.Select{
		{Items: []api.Item{{Expr: x}}},
		{Items: []api.Item{{Expr: x, Name: "k"}}},
		{From: []api.Source{{Table: "t"}, {Kind: api.SourceLeft, Table: "u", On: l}}},
		{Where: l}, {Group: l}, {Group: []api.Expr{name("a"), x}}, {Having: l},
	} {
		if s.Items == nil {
			s.Items = []api.Item{{Star: true}}
		}
		if s.From == nil {
			s.From = []api.Source{{Table: "t"}}
		}
		wantQueryError(t, what, selects(s), want)
		wantQueryError(t, what, two(api.QueryUnion, all("t"), selects(s)), want)
		wantQueryError(t, what, item(api.Expr{Op: api.OpExists, Query: []api.Query{selects(s)}}), want)
		wantQueryError(t, what, selects(api.Select{Items: []api.Item{{Star: true}}, From: []api.Source{{Query: []api.Query{selects(s)}, As: "x"}}}), want)
	}
	q := all("t")
	q.Order = []api.Order{{Expr: name("a")}, {Expr: x}}
	wantQueryError(t, what, q, want)
	wantQueryError(t, what, item(node(api.OpNot, x)), want)
	wantQueryError(t, what, item(node(api.OpAdd, name("a"), x)), want)
	wantError(t, what, api.Statement{Op: api.DoInsert, Name: "t", Rows: [][]api.Expr{{name("a")}, {name("a"), x}}}, want)
	wantError(t, what, api.Statement{Op: api.DoDelete, Name: "t", Where: l}, want)
	wantError(t, what, api.Statement{Op: api.DoUpdate, Name: "t", Sets: []api.Set{{Name: "a", Expr: x}}}, want)
	wantError(t, what, api.Statement{Op: api.DoUpdate, Name: "t", Sets: []api.Set{{Name: "a", Expr: name("a")}}, Where: l}, want)
}

// shapes are how many elements of Args and of Query expressions have.
func shapes() map[int][2]int {
	l := map[int][2]int{api.OpValue: {0, 0}, api.OpName: {0, 0}, api.OpCountAll: {0, 0}}
	for _, op := range []int{api.OpNeg, api.OpNot, api.OpIsNull, api.OpNotNull, api.OpCount, api.OpSum, api.OpMin, api.OpMax} {
		l[op] = [2]int{1, 0}
	}
	for _, op := range []int{api.OpAdd, api.OpSub, api.OpMul, api.OpDiv, api.OpRem, api.OpEq, api.OpNe, api.OpLt, api.OpLe, api.OpGt, api.OpGe, api.OpAnd, api.OpOr} {
		l[op] = [2]int{2, 0}
	}
	l[api.OpExists], l[api.OpNotExists] = [2]int{0, 1}, [2]int{0, 1}
	l[api.OpIn], l[api.OpNotIn] = [2]int{1, 1}, [2]int{1, 1}
	return l
}

// P11.1: an expression has the fields that its Op requires, and no others.
func TestFormsOfExpressions(t *testing.T) {
	known := shapes()
	for _, op := range append(many(45, func(i int) int { return i - 5 }), -1<<63, 1<<63-1, 1<<32+api.OpName) {
		for args := range 4 {
			for queries := range 3 {
				x := api.Expr{Op: op}
				for range args {
					x.Args = append(x.Args, name("a"))
				}
				for range queries {
					x.Query = append(x.Query, all("u"))
				}
				if op == api.OpName {
					x.Name = "a"
				}
				what, want := "Op "+strconv.Itoa(op)+" with "+strconv.Itoa(args)+" and "+strconv.Itoa(queries), api.ErrForm
				if shape, ok := known[op]; ok && shape == [2]int{args, queries} {
					want = api.OK
					wantNoOtherFields(t, what, x)
				}
				wantExprError(t, what, x, want)
			}
		}
	}
	empty := api.Expr{Op: api.OpName, Name: "a", Args: []api.Expr{}, Query: []api.Query{}}
	wantExprError(t, "empty slices", empty, api.OK)
	wantExprError(t, "empty slices", api.Expr{Op: api.OpExists, Args: []api.Expr{}, Query: []api.Query{all("t")}}, api.OK)
	wantExprError(t, "empty slices", api.Expr{Op: api.OpNot, Args: []api.Expr{empty}, Query: []api.Query{}}, api.OK)
}

func many[T any](n int, element func(i int) T) []T {
	l := make([]T, n)
	for i := range l {
		l[i] = element(i)
	}
	return l
}

func wantNoOtherFields(t *testing.T, what string, x api.Expr) {
	t.Helper()
	if x.Op != api.OpValue {
		for _, v := range []api.Value{{Kind: api.Int}, {Kind: 9}, {N: 1}, {S: "x"}} {
			y := x
			y.Value = v
			wantExprError(t, what+" and a value", y, api.ErrForm)
		}
	}
	if x.Op != api.OpName {
		y := x
		y.Name = "a"
		wantExprError(t, what+" and a name", y, api.ErrForm)
		y.Name, y.Table = "", "a"
		wantExprError(t, what+" and a table", y, api.ErrForm)
		y.Name, y.Table = "1", "A"
		wantExprError(t, what+" and what is no name", y, api.ErrForm)
	}
}

// P11.1: queries.
func TestFormsOfQueries(t *testing.T) {
	a, l, t1 := name("a"), []api.Expr{name("a")}, all("t")
	change := func(f func(q *api.Query)) api.Query {
		q := all("t")
		f(&q)
		return q
	}
	union := func(f func(q *api.Query)) api.Query {
		q := two(api.QueryUnion, all("t"), all("u"))
		f(&q)
		return q
	}
	for what, q := range map[string]api.Query{
		"nothing":                        {},
		"no select":                      {Op: api.QuerySelect},
		"no Op":                          change(func(q *api.Query) { q.Op = 0 }),
		"another Op":                     change(func(q *api.Query) { q.Op = 4 }),
		"a negative Op":                  change(func(q *api.Query) { q.Op = -1 }),
		"a select as union":              change(func(q *api.Query) { q.Op = api.QueryUnion }),
		"a select as except":             change(func(q *api.Query) { q.Op = api.QueryExcept }),
		"a select with a part":           change(func(q *api.Query) { q.Parts = []api.Query{t1} }),
		"a select with parts":            change(func(q *api.Query) { q.Parts = []api.Query{t1, t1} }),
		"a limit that is none":           change(func(q *api.Query) { q.Limit = 1 }),
		"a negative limit that is none":  change(func(q *api.Query) { q.Limit = -1 }),
		"a negative limit":               change(func(q *api.Query) { q.Limited, q.Limit = true, -1 }),
		"the least limit":                change(func(q *api.Query) { q.Limited, q.Limit = true, -1<<63 }),
		"no items":                       change(func(q *api.Query) { q.Select.Items = []api.Item{} }),
		"no sources":                     change(func(q *api.Query) { q.Select.From = []api.Source{} }),
		"two conditions":                 change(func(q *api.Query) { q.Select.Where = []api.Expr{a, a} }),
		"two conditions of groups":       change(func(q *api.Query) { q.Select.Having = []api.Expr{a, a} }),
		"a star with a name":             change(func(q *api.Query) { q.Select.Items[0].Name = "k" }),
		"a star with an expression":      change(func(q *api.Query) { q.Select.Items[0].Expr = a }),
		"a star with a value":            change(func(q *api.Query) { q.Select.Items[0].Expr.Value.N = 1 }),
		"a star with an Op":              change(func(q *api.Query) { q.Select.Items[0].Expr.Op = api.OpCountAll }),
		"a star with a table":            change(func(q *api.Query) { q.Select.Items[0].Expr.Table = "t" }),
		"an item without an expression":  change(func(q *api.Query) { q.Select.Items[0].Star = false }),
		"a name without an expression":   change(func(q *api.Query) { q.Select.Items[0] = api.Item{Name: "k"} }),
		"a first source that is joined":  change(func(q *api.Query) { q.Select.From[0].Kind = api.SourceJoin }),
		"joined, and on":                 change(func(q *api.Query) { q.Select.From[0].Kind, q.Select.From[0].On = api.SourceLeft, l }),
		"a first source with on":         change(func(q *api.Query) { q.Select.From[0].On = l }),
		"a first source of another kind": change(func(q *api.Query) { q.Select.From[0].Kind = -1 }),
		"two first sources":              change(func(q *api.Query) { q.Select.From = []api.Source{{Table: "t"}, {Table: "u"}} }),
		"two first sources, on":          change(func(q *api.Query) { q.Select.From = []api.Source{{Table: "t"}, {Table: "u", On: l}} }),
		"a source of another kind":       change(func(q *api.Query) { q.Select.From = []api.Source{{Table: "t"}, {Kind: 3, Table: "u", On: l}} }),
		"a source of a negative kind":    change(func(q *api.Query) { q.Select.From = []api.Source{{Table: "t"}, {Kind: -1, Table: "u", On: l}} }),
		"a join without on":              change(func(q *api.Query) { q.Select.From = []api.Source{{Table: "t"}, {Kind: api.SourceJoin, Table: "u"}} }),
		"a left join with on twice": change(func(q *api.Query) {
			q.Select.From = []api.Source{{Table: "t"}, {Kind: api.SourceLeft, Table: "u", On: []api.Expr{a, a}}}
		}),
		"a join ahead of the first": change(func(q *api.Query) {
			q.Select.From = []api.Source{{Kind: api.SourceJoin, Table: "t", On: l}, {Table: "u"}}
		}),
		"a source twice":                   change(func(q *api.Query) { q.Select.From[0] = api.Source{Table: "t", Query: []api.Query{t1}, As: "x"} }),
		"a source twice, without a name":   change(func(q *api.Query) { q.Select.From[0] = api.Source{Table: "t", Query: []api.Query{t1}} }),
		"a source with two queries":        change(func(q *api.Query) { q.Select.From[0] = api.Source{Query: []api.Query{t1, t1}, As: "x"} }),
		"a query without a name":           change(func(q *api.Query) { q.Select.From[0] = api.Source{Query: []api.Query{t1}} }),
		"a source of nothing":              change(func(q *api.Query) { q.Select.From[0] = api.Source{Query: []api.Query{{}}, As: "x"} }),
		"a union of none":                  {Op: api.QueryUnion},
		"a union of one":                   {Op: api.QueryUnion, Parts: []api.Query{t1}},
		"an except of one":                 {Op: api.QueryExcept, Parts: []api.Query{t1}},
		"an except of three":               {Op: api.QueryExcept, Parts: []api.Query{t1, t1, t1}},
		"parts alone":                      {Parts: []api.Query{t1, t1}},
		"parts as a select":                {Op: api.QuerySelect, Parts: []api.Query{t1, t1}},
		"a union with nothing":             two(api.QueryUnion, t1, api.Query{}),
		"a union that is distinct":         union(func(q *api.Query) { q.Select.Distinct = true }),
		"a union with items":               union(func(q *api.Query) { q.Select.Items = t1.Select.Items }),
		"a union with sources":             union(func(q *api.Query) { q.Select.From = t1.Select.From }),
		"a union with a condition":         union(func(q *api.Query) { q.Select.Where = l }),
		"a union with groups":              union(func(q *api.Query) { q.Select.Group = l }),
		"a union with a groups' condition": union(func(q *api.Query) { q.Select.Having = l }),
		"a union with a whole select":      union(func(q *api.Query) { q.Select = t1.Select }),
		"a union with a limit of none":     union(func(q *api.Query) { q.Limit = 1 }),
	} {
		wantQueryError(t, what, q, api.ErrForm)
		wantInnerError(t, what, q, api.ErrForm)
	}
	for what, q := range map[string]api.Query{
		"a select": t1,
		"a union":  union(func(q *api.Query) {}),
		"empty slices": union(func(q *api.Query) {
			q.Select.Items, q.Select.Where, q.Order = []api.Item{}, []api.Expr{}, []api.Order{}
		}),
		"empty slices of a select": change(func(q *api.Query) {
			q.Parts, q.Select.Where, q.Select.Having, q.Select.Group, q.Order = []api.Query{}, []api.Expr{}, []api.Expr{}, []api.Expr{}, []api.Order{}
		}),
		"empty slices of a star": change(func(q *api.Query) {
			q.Select.Items[0].Expr.Args, q.Select.Items[0].Expr.Query = []api.Expr{}, []api.Query{}
		}),
		"empty slices of a source":   change(func(q *api.Query) { q.Select.From[0].Query, q.Select.From[0].On = []api.Query{}, []api.Expr{} }),
		"a condition, and of groups": change(func(q *api.Query) { q.Select.Where, q.Select.Having = l, l }),
	} {
		wantQueryError(t, what, q, api.OK)
		wantInnerError(t, what, q, api.OK)
	}
	for what, q := range map[string]api.Query{
		"an order":           change(func(q *api.Query) { q.Order = []api.Order{{Expr: a}} }),
		"a limit":            change(func(q *api.Query) { q.Limited, q.Limit = true, 3 }),
		"a limit of 0":       change(func(q *api.Query) { q.Limited = true }),
		"an order and limit": change(func(q *api.Query) { q.Order, q.Limited, q.Limit = []api.Order{{Expr: a}}, true, 3 }),
		"a union's order":    union(func(q *api.Query) { q.Order = []api.Order{{Expr: a, Down: true}} }),
		"a union's limit":    union(func(q *api.Query) { q.Limited = true }),
	} {
		wantQueryError(t, what, q, api.OK)
		wantInnerError(t, what, q, api.ErrForm)
	}
	order := change(func(q *api.Query) { q.Order = []api.Order{{}} })
	wantQueryError(t, "an order of nothing", order, api.ErrForm)
}

// wantInnerError asks for a query's error wherever one can stand within another one, an expression or a source.
func wantInnerError(t *testing.T, what string, q api.Query, want api.Errno) {
	t.Helper()
	what += ", within another"
	l := []api.Query{q}
	for _, outer := range []api.Query{
		two(api.QueryUnion, all("t"), q), two(api.QueryUnion, q, all("t")), two(api.QueryExcept, all("t"), q), two(api.QueryExcept, q, all("t")),
		two(api.QueryUnion, two(api.QueryUnion, all("t"), q), all("t")),
		selects(api.Select{Items: []api.Item{{Star: true}}, From: []api.Source{{Query: l, As: "x"}}}),
		selects(api.Select{Items: []api.Item{{Star: true}}, From: []api.Source{{Table: "t"}, {Kind: api.SourceJoin, Query: l, As: "x", On: []api.Expr{name("a")}}}}),
		item(api.Expr{Op: api.OpExists, Query: l}), item(api.Expr{Op: api.OpNotExists, Query: l}),
		item(api.Expr{Op: api.OpIn, Args: []api.Expr{name("a")}, Query: l}), item(api.Expr{Op: api.OpNotIn, Args: []api.Expr{name("a")}, Query: l}),
	} {
		wantQueryError(t, what, outer, want)
	}
	x := api.Expr{Op: api.OpExists, Query: l}
	wantError(t, what, api.Statement{Op: api.DoDelete, Name: "t", Where: []api.Expr{x}}, want)
	wantError(t, what, api.Statement{Op: api.DoInsert, Name: "t", Rows: [][]api.Expr{{x}}}, want)
	wantError(t, what, api.Statement{Op: api.DoUpdate, Name: "t", Sets: []api.Set{{Name: "a", Expr: x}}}, want)
}

// field sets a field of a statement, or, alone, makes it what a statement requires.
type field struct {
	what string
	set  func(s *api.Statement)
}

func fields() []field {
	return []field{
		{"name", func(s *api.Statement) { s.Name = "a" }},
		{"table", func(s *api.Statement) {
			s.Table = api.Table{Name: "t", Columns: []api.Column{{Name: "a", Kind: api.Int}}, Key: 0}
		}},
		{"query", func(s *api.Statement) { s.Query = all("t") }},
		{"rows", func(s *api.Statement) { s.Rows = [][]api.Expr{{name("a")}} }},
		{"sets", func(s *api.Statement) { s.Sets = []api.Set{{Name: "a", Expr: name("a")}} }},
		{"where", func(s *api.Statement) { s.Where = []api.Expr{name("a")} }},
	}
}

// P11.1: a statement has the fields that its Op requires, and no others.
func TestFieldsOfStatements(t *testing.T) {
	required := map[int]string{api.DoQuery: "query", api.DoTable: "table", api.DoView: "name query", api.DoInsert: "name rows", api.DoDelete: "name", api.DoUpdate: "name sets", api.DoCommit: "", api.DoAbort: ""}
	optional := map[int]string{api.DoDelete: "where", api.DoUpdate: "where"}
	for _, op := range append(many(14, func(i int) int { return i - 3 }), -1<<63, 1<<63-1) {
		for chosen := range 1 << len(fields()) {
			s, what := api.Statement{Op: op}, "Op "+strconv.Itoa(op)
			need, ok := required[op]
			want := api.OK
			if !ok {
				want = api.ErrForm
			}
			for i, f := range fields() {
				has := chosen>>i&1 > 0
				if has {
					f.set(&s)
					what += " " + f.what
				}
				switch needs := strings.Contains(need, f.what); {
				case has && !needs && f.what != optional[op], !has && needs && f.what != "name" && f.what != "table":
					want = api.ErrForm
				case !has && f.what == "table" && needs:
					want = api.ErrForm // no columns
				case !has && needs && want == api.OK:
					want = api.ErrName
				}
			}
			wantError(t, what, s, want)
		}
	}
}

// P11.1: fields that do not belong to a statement are zero in all of their own fields.
func TestOtherFieldsOfStatements(t *testing.T) {
	for what, set := range map[string]func(s *api.Statement){
		"a table's name":    func(s *api.Statement) { s.Table.Name = "t" },
		"a table's columns": func(s *api.Statement) { s.Table.Columns = make([]api.Column, 1) },
		"a table's key":     func(s *api.Statement) { s.Table.Key = -1 },
		"another key":       func(s *api.Statement) { s.Table.Key = 1 },
		"a query's Op":      func(s *api.Statement) { s.Query.Op = api.QuerySelect },
		"a query's parts":   func(s *api.Statement) { s.Query.Parts = make([]api.Query, 1) },
		"distinct":          func(s *api.Statement) { s.Query.Select.Distinct = true },
		"items":             func(s *api.Statement) { s.Query.Select.Items = make([]api.Item, 1) },
		"sources":           func(s *api.Statement) { s.Query.Select.From = make([]api.Source, 1) },
		"a condition":       func(s *api.Statement) { s.Query.Select.Where = make([]api.Expr, 1) },
		"groups":            func(s *api.Statement) { s.Query.Select.Group = make([]api.Expr, 1) },
		"groups' condition": func(s *api.Statement) { s.Query.Select.Having = make([]api.Expr, 1) },
		"an order":          func(s *api.Statement) { s.Query.Order = make([]api.Order, 1) },
		"a limit":           func(s *api.Statement) { s.Query.Limited = true },
		"a limit's number":  func(s *api.Statement) { s.Query.Limit = 1 },
		"an empty row":      func(s *api.Statement) { s.Rows = make([][]api.Expr, 1) },
		"an empty set":      func(s *api.Statement) { s.Sets = make([]api.Set, 1) },
		"an empty where":    func(s *api.Statement) { s.Where = make([]api.Expr, 1) },
		"two where":         func(s *api.Statement) { s.Where = []api.Expr{name("a"), name("a")} },
	} {
		for _, s := range []api.Statement{{Op: api.DoCommit}, {Op: api.DoAbort}, {Op: api.DoDelete, Name: "t"}} {
			wantError(t, "nothing", s, api.OK)
			set(&s)
			wantError(t, what, s, api.ErrForm)
		}
	}
	s := api.Statement{Op: api.DoUpdate, Name: "t", Sets: []api.Set{{Name: "a", Expr: name("a")}}, Where: []api.Expr{name("a"), name("a")}}
	wantError(t, "update with two where", s, api.ErrForm)
	s.Where, s.Sets = nil, append(s.Sets, api.Set{Name: "b"})
	wantError(t, "a set without an expression", s, api.ErrForm)
	s = api.Statement{Op: api.DoInsert, Name: "t", Rows: [][]api.Expr{{name("a")}, {}}}
	wantError(t, "an empty row behind another", s, api.ErrForm)
	empty := api.Statement{Op: api.DoCommit, Table: api.Table{Columns: []api.Column{}}, Rows: [][]api.Expr{}, Sets: []api.Set{}, Where: []api.Expr{}}
	empty.Query = api.Query{Parts: []api.Query{}, Order: []api.Order{}, Select: api.Select{Items: []api.Item{}, From: []api.Source{}, Where: []api.Expr{}, Group: []api.Expr{}, Having: []api.Expr{}}}
	wantError(t, "empty slices", empty, api.OK)
}

// P11.1: tables.
func TestFormsOfTables(t *testing.T) {
	column := func(kind int, nullable bool) api.Column { return api.Column{Name: "a", Kind: kind, Nullable: nullable} }
	for _, c := range []struct {
		key     int
		columns []api.Column
		want    api.Errno
	}{
		{-1, []api.Column{column(api.Int, true)}, api.OK},
		{-1, []api.Column{column(api.Text, false), column(api.Bool, true)}, api.OK},
		{0, []api.Column{column(api.Text, false), column(api.Bool, true)}, api.OK},
		{1, []api.Column{column(api.Text, true), column(api.Bool, false)}, api.OK},
		{-1, many(9, func(int) api.Column { return column(api.Int, true) }), api.OK}, // how many there can be, package catalog asks
		{-1, nil, api.ErrForm},
		{-1, []api.Column{}, api.ErrForm},
		{0, nil, api.ErrForm},
		{0, []api.Column{column(api.Int, true)}, api.ErrForm},
		{1, []api.Column{column(api.Int, false), column(api.Int, true)}, api.ErrForm},
		{1, []api.Column{column(api.Int, false)}, api.ErrForm},
		{2, []api.Column{column(api.Int, false)}, api.ErrForm},
		{-2, []api.Column{column(api.Int, false)}, api.ErrForm},
		{-1 << 63, []api.Column{column(api.Int, false)}, api.ErrForm},
		{1<<63 - 1, []api.Column{column(api.Int, false)}, api.ErrForm},
		{-1, []api.Column{column(api.Null, true)}, api.ErrForm},
		{-1, []api.Column{column(4, true)}, api.ErrForm},
		{-1, []api.Column{column(-1, true)}, api.ErrForm},
		{-1, []api.Column{column(api.Int, true), column(1<<62, true)}, api.ErrForm},
	} {
		s := api.Statement{Op: api.DoTable, Table: api.Table{Name: "t", Key: c.key, Columns: c.columns}}
		wantError(t, "key "+strconv.Itoa(c.key)+" of "+strconv.Itoa(len(c.columns)), s, c.want)
	}
}

// P11.1: names, wherever one is required or can be left out.
func TestNames(t *testing.T) {
	table := func(name, column string) api.Statement {
		return api.Statement{Op: api.DoTable, Table: api.Table{Name: name, Key: -1, Columns: []api.Column{{Name: "a", Kind: api.Int}, {Name: column, Kind: api.Int}}}}
	}
	from := func(s api.Source) api.Statement {
		s.Kind, s.On = api.SourceJoin, []api.Expr{name("a")}
		return api.Statement{Op: api.DoQuery, Query: selects(api.Select{Items: []api.Item{{Star: true}}, From: []api.Source{{Table: "t"}, s}})}
	}
	for _, s := range []string{"a", "z", "a1", "abcdefghijklmnop", "selec", "selects", "x0", "", "abcdefghijklmnopq", "1", "1a", "A", "aB", "a_b", "a b", " a", "a ", "a.b", "é", "*", "select", "int", "key", "abort", "null", "a\x00", strings.Repeat("a", 1<<20)} {
		isName := len(s) <= 16 && s != "" && strings.Trim(s, "abcdefghijklmnopqrstuvwxyz0123456789") == "" && s[0] >= 'a' && !strings.Contains(" select int key abort null ", " "+s+" ")
		required, optional := api.ErrName, api.ErrName
		if isName {
			required = api.OK
		}
		if isName || s == "" {
			optional = api.OK
		}
		what := strconv.Quote(s[:min(len(s), 20)])
		wantExprError(t, what, name(s), required)
		wantExprError(t, what+" of t", of("t", s), required)
		wantExprError(t, what+" as table", of(s, "a"), optional)
		wantQueryError(t, what+" as item", selects(api.Select{Items: []api.Item{{Expr: name("a"), Name: s}}, From: []api.Source{{Table: "t"}}}), optional)
		for _, statement := range []api.Statement{
			table(s, "b"), table("t", s), {Op: api.DoView, Name: s, Query: all("t")}, {Op: api.DoInsert, Name: s, Rows: [][]api.Expr{{name("a")}}},
			{Op: api.DoDelete, Name: s}, {Op: api.DoUpdate, Name: s, Sets: []api.Set{{Name: "a", Expr: name("a")}}},
			{Op: api.DoUpdate, Name: "t", Sets: []api.Set{{Name: "a", Expr: name("a")}, {Name: s, Expr: name("a")}}},
			from(api.Source{Table: s}), from(api.Source{Table: s, As: "x"}), {Op: api.DoQuery, Query: all(s)},
		} {
			wantError(t, what+" required", statement, required)
		}
		wantError(t, what+" as source", from(api.Source{Table: "u", As: s}), optional)
		if s == "" {
			required = api.ErrForm
		}
		wantError(t, what+" as query", from(api.Source{Query: []api.Query{all("u")}, As: s}), required)
	}
}

// P11.1: values.
func TestValues(t *testing.T) {
	for _, c := range []struct {
		v    api.Value
		want api.Errno
	}{
		{api.Value{}, api.OK}, {api.Value{N: 1}, api.ErrKind}, {api.Value{S: "x"}, api.ErrKind},
		{api.Value{Kind: api.Int, N: -1 << 63}, api.OK}, {api.Value{Kind: api.Int, S: "x"}, api.ErrKind},
		{api.Value{Kind: api.Text, S: strings.Repeat("\xff", 64)}, api.OK}, {api.Value{Kind: api.Text, S: strings.Repeat("x", 65)}, api.ErrKind}, {api.Value{Kind: api.Text, N: 1}, api.ErrKind},
		{api.Value{Kind: api.Bool, N: 1}, api.OK}, {api.Value{Kind: api.Bool}, api.OK}, {api.Value{Kind: api.Bool, N: 2}, api.ErrKind}, {api.Value{Kind: api.Bool, N: -1}, api.ErrKind}, {api.Value{Kind: api.Bool, S: "x"}, api.ErrKind},
		{api.Value{Kind: 4}, api.ErrKind}, {api.Value{Kind: -1}, api.ErrKind}, {api.Value{Kind: 9}, api.ErrKind},
	} {
		wantExprError(t, "a value", constant(c.v), c.want)
	}
}
