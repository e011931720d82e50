package parse_test

import (
	"go/parser"
	"go/token"
	"path/filepath"
	"reflect"
	"strings"
	"testing"

	"touchmark/api"
	"touchmark/parse"
)

func name(s string) api.Expr { return api.Expr{Op: api.OpName, Name: s} }

func of(table, s string) api.Expr { return api.Expr{Op: api.OpName, Table: table, Name: s} }

func text(s string) api.Expr { return constant(api.Value{Kind: api.Text, S: s}) }

// selects is select a from one table, the query that examples are put together from.
func selects(table string) api.Query {
	return api.Query{Op: api.QuerySelect, Select: api.Select{
		Items: []api.Item{{Expr: name("a")}},
		From:  []api.Source{{Table: table}},
	}}
}

func two(op int, a, b api.Query) api.Query {
	return api.Query{Op: op, Parts: []api.Query{a, b}}
}

func asks(op int, table string, args ...api.Expr) api.Expr {
	return api.Expr{Op: op, Args: args, Query: []api.Query{selects(table)}}
}

func wantStatement(t *testing.T, src string, want api.Statement) {
	t.Helper()
	if s, e, at := parse.Statement(src); e != api.OK || at != 0 || !reflect.DeepEqual(s, want) {
		t.Errorf("%s: %+v, %d, %d, want %+v", src, s, e, at, want)
	}
}

func wantQuery(t *testing.T, src string, want api.Query) {
	t.Helper()
	if q, e, at := parse.Query(src); e != api.OK || at != 0 || !reflect.DeepEqual(q, want) {
		t.Errorf("%s: %+v, %d, %d, want %+v", src, q, e, at, want)
	}
	wantStatement(t, src, api.Statement{Op: api.DoQuery, Query: want})
}

// wantExpr asks for an expression as an item and as a condition.
func wantExpr(t *testing.T, src string, want api.Expr) {
	t.Helper()
	q := selects("t")
	q.Select.Items[0].Expr = want
	wantQuery(t, "select "+src+" from t", q)
	q = selects("t")
	q.Select.Where = []api.Expr{want}
	wantQuery(t, "select a from t where "+src, q)
}

// P10.1: operators, from the ones that bind least on.
func TestExprs(t *testing.T) {
	a, b, c, d := name("a"), name("b"), name("c"), name("d")
	for src, want := range map[string]api.Expr{
		"a or b":                  node(api.OpOr, a, b),
		"a or b or c":             node(api.OpOr, node(api.OpOr, a, b), c),
		"a or (b or c)":           node(api.OpOr, a, node(api.OpOr, b, c)),
		"a and b and c":           node(api.OpAnd, node(api.OpAnd, a, b), c),
		"a or b and c":            node(api.OpOr, a, node(api.OpAnd, b, c)),
		"a and b or c":            node(api.OpOr, node(api.OpAnd, a, b), c),
		"(a or b) and c":          node(api.OpAnd, node(api.OpOr, a, b), c),
		"not a or b and c":        node(api.OpOr, node(api.OpNot, a), node(api.OpAnd, b, c)),
		"a or not b and c":        node(api.OpOr, a, node(api.OpAnd, node(api.OpNot, b), c)),
		"not a and not b":         node(api.OpAnd, node(api.OpNot, a), node(api.OpNot, b)),
		"not not a":               node(api.OpNot, node(api.OpNot, a)),
		"not a = b":               node(api.OpNot, node(api.OpEq, a, b)),
		"(not a) = b":             node(api.OpEq, node(api.OpNot, a), b),
		"not a is null and b":     node(api.OpAnd, node(api.OpNot, node(api.OpIsNull, a)), b),
		"a = b and c = d":         node(api.OpAnd, node(api.OpEq, a, b), node(api.OpEq, c, d)),
		"a = b":                   node(api.OpEq, a, b),
		"a <> b":                  node(api.OpNe, a, b),
		"a < b":                   node(api.OpLt, a, b),
		"a <= b":                  node(api.OpLe, a, b),
		"a > b":                   node(api.OpGt, a, b),
		"a >= b":                  node(api.OpGe, a, b),
		"(a = b) = c":             node(api.OpEq, node(api.OpEq, a, b), c),
		"a = (b = c)":             node(api.OpEq, a, node(api.OpEq, b, c)),
		"a + b = c * d":           node(api.OpEq, node(api.OpAdd, a, b), node(api.OpMul, c, d)),
		"a is null":               node(api.OpIsNull, a),
		"a is not null":           node(api.OpNotNull, a),
		"a + b is null":           node(api.OpIsNull, node(api.OpAdd, a, b)),
		"(a is null) is not null": node(api.OpNotNull, node(api.OpIsNull, a)),
		"null is null":            node(api.OpIsNull, constant(api.Value{})),
		"a + b + c":               node(api.OpAdd, node(api.OpAdd, a, b), c),
		"a - b + c":               node(api.OpAdd, node(api.OpSub, a, b), c),
		"a + b - c":               node(api.OpSub, node(api.OpAdd, a, b), c),
		"a - (b - c)":             node(api.OpSub, a, node(api.OpSub, b, c)),
		"a + b * c":               node(api.OpAdd, a, node(api.OpMul, b, c)),
		"a * b + c":               node(api.OpAdd, node(api.OpMul, a, b), c),
		"(a + b) * c":             node(api.OpMul, node(api.OpAdd, a, b), c),
		"a * b / c % d":           node(api.OpRem, node(api.OpDiv, node(api.OpMul, a, b), c), d),
		"a % (b / c)":             node(api.OpRem, a, node(api.OpDiv, b, c)),
		"a - b * c - d":           node(api.OpSub, node(api.OpSub, a, node(api.OpMul, b, c)), d),
		"((a))":                   a,
		"a.b":                     of("a", "b"),
		"a . b = c.\nd":           node(api.OpEq, of("a", "b"), of("c", "d")),
		"count(*)":                node(api.OpCountAll),
		"count ( * ) - 1":         node(api.OpSub, node(api.OpCountAll), integer(1)),
		"count(a)":                node(api.OpCount, a),
		"sum(a + b)":              node(api.OpSum, node(api.OpAdd, a, b)),
		"min(t.a)":                node(api.OpMin, of("t", "a")),
		"max(not a or b)":         node(api.OpMax, node(api.OpOr, node(api.OpNot, a), b)),
		"sum(count(*))":           node(api.OpSum, node(api.OpCountAll)),
	} {
		wantExpr(t, src, want)
	}
}

// P10.1: values, and the prefix - ahead of them and of others.
func TestValues(t *testing.T) {
	a := name("a")
	for src, want := range map[string]api.Expr{
		"0":                                  integer(0),
		"5":                                  integer(5),
		"9223372036854775807":                integer(1<<63 - 1),
		"- 0":                                integer(0),
		"-5":                                 integer(-5),
		"- 5":                                integer(-5),
		"-9223372036854775807":               integer(-1<<63 + 1),
		"- 9223372036854775808":              integer(-1 << 63),
		"-(5)":                               node(api.OpNeg, integer(5)),
		"- -5":                               node(api.OpNeg, integer(-5)),
		"- - - 5":                            node(api.OpNeg, node(api.OpNeg, integer(-5))),
		"-(-5)":                              node(api.OpNeg, integer(-5)),
		"- -9223372036854775808":             node(api.OpNeg, integer(-1<<63)),
		"-a":                                 node(api.OpNeg, a),
		"--a":                                node(api.OpNeg, node(api.OpNeg, a)),
		"-t.a":                               node(api.OpNeg, of("t", "a")),
		"-'x'":                               node(api.OpNeg, text("x")),
		"-null":                              node(api.OpNeg, constant(api.Value{})),
		"-count(*)":                          node(api.OpNeg, node(api.OpCountAll)),
		"-a + 1":                             node(api.OpAdd, node(api.OpNeg, a), integer(1)),
		"-a * 2":                             node(api.OpMul, node(api.OpNeg, a), integer(2)),
		"-5 * 2":                             node(api.OpMul, integer(-5), integer(2)),
		"a -5":                               node(api.OpSub, a, integer(5)),
		"a - -5":                             node(api.OpSub, a, integer(-5)),
		"a * -5":                             node(api.OpMul, a, integer(-5)),
		"a*-a":                               node(api.OpMul, a, node(api.OpNeg, a)),
		"a - -9223372036854775808":           node(api.OpSub, a, integer(-1<<63)),
		"not -a":                             node(api.OpNot, node(api.OpNeg, a)),
		"true":                               constant(api.Value{Kind: api.Bool, N: 1}),
		"false":                              constant(api.Value{Kind: api.Bool}),
		"null":                               constant(api.Value{}),
		"''":                                 text(""),
		"'it''s'":                            text("it's"),
		"'select (\n'":                       text("select (\n"),
		"'" + strings.Repeat("''", 64) + "'": text(strings.Repeat("'", 64)),
	} {
		wantExpr(t, src, want)
	}
}

// P10.1: queries within expressions.
func TestExistsAndIn(t *testing.T) {
	a, b := name("a"), name("b")
	for src, want := range map[string]api.Expr{
		"exists (select a from u)":                            asks(api.OpExists, "u"),
		"not exists (select a from u)":                        asks(api.OpNotExists, "u"),
		"not (exists (select a from u))":                      node(api.OpNot, asks(api.OpExists, "u")),
		"not not exists (select a from u)":                    node(api.OpNot, asks(api.OpNotExists, "u")),
		"not (not exists (select a from u))":                  node(api.OpNot, asks(api.OpNotExists, "u")),
		"not exists (select a from u) and b":                  node(api.OpAnd, asks(api.OpNotExists, "u"), b),
		"b or not exists (select a from u)":                   node(api.OpOr, b, asks(api.OpNotExists, "u")),
		"not (exists (select a from u)) = b":                  node(api.OpNot, node(api.OpEq, asks(api.OpExists, "u"), b)),
		"exists (select a from u) = b":                        node(api.OpEq, asks(api.OpExists, "u"), b),
		"b = exists (select a from u)":                        node(api.OpEq, b, asks(api.OpExists, "u")),
		"-exists (select a from u)":                           node(api.OpNeg, asks(api.OpExists, "u")),
		"exists ((select a from u))":                          asks(api.OpExists, "u"),
		"a in (select a from u)":                              asks(api.OpIn, "u", a),
		"a not in (select a from u)":                          asks(api.OpNotIn, "u", a),
		"a + b in (select a from u)":                          asks(api.OpIn, "u", node(api.OpAdd, a, b)),
		"a * b not in (select a from u)":                      asks(api.OpNotIn, "u", node(api.OpMul, a, b)),
		"not a in (select a from u)":                          node(api.OpNot, asks(api.OpIn, "u", a)),
		"not a not in (select a from u)":                      node(api.OpNot, asks(api.OpNotIn, "u", a)),
		"(a in (select a from u)) in (select a from v)":       asks(api.OpIn, "v", asks(api.OpIn, "u", a)),
		"a in (select a from u) and b":                        node(api.OpAnd, asks(api.OpIn, "u", a), b),
		"exists (select a from u union all select a from v)":  {Op: api.OpExists, Query: []api.Query{two(api.QueryUnion, selects("u"), selects("v"))}},
		"a in ((select a from u) except all select a from v)": {Op: api.OpIn, Args: []api.Expr{a}, Query: []api.Query{two(api.QueryExcept, selects("u"), selects("v"))}},
	} {
		wantExpr(t, src, want)
	}
}

// P10.1, P10.2: queries of several selects, in parentheses or not.
func TestBodies(t *testing.T) {
	q, u, v := selects("t"), selects("u"), selects("v")
	wantQuery(t, "select a from t", q)
	wantQuery(t, "(select a from t)", q)
	wantQuery(t, "((select a from t))", q)
	wantQuery(t, "select a from t union all select a from u", two(api.QueryUnion, q, u))
	wantQuery(t, "select a from t except all select a from u", two(api.QueryExcept, q, u))
	wantQuery(t, "select a from t union all select a from u except all select a from v", two(api.QueryExcept, two(api.QueryUnion, q, u), v))
	wantQuery(t, "select a from t except all select a from u union all select a from v", two(api.QueryUnion, two(api.QueryExcept, q, u), v))
	wantQuery(t, "select a from t except all (select a from u union all select a from v)", two(api.QueryExcept, q, two(api.QueryUnion, u, v)))
	wantQuery(t, "(select a from t union all select a from u) except all select a from v", two(api.QueryExcept, two(api.QueryUnion, q, u), v))

	all := two(api.QueryUnion, q, u)
	all.Order, all.Limited, all.Limit = []api.Order{{Expr: name("a"), Down: true}, {Expr: name("b")}}, true, 3
	wantQuery(t, "select a from t union all select a from u order by a desc, b limit 3", all)
	wantQuery(t, "(select a from t union all select a from u) order by a desc, b limit 3", all)
	all.Order, all.Limit = nil, 0
	wantQuery(t, "select a from t union all (select a from u) limit 0", all)
	q.Order = []api.Order{{Expr: node(api.OpAdd, name("a"), integer(1))}, {Expr: of("t", "a"), Down: true}}
	wantQuery(t, "select a from t order by a + 1, t.a desc", q)
	q.Order, q.Limited, q.Limit = nil, true, 1<<63-1
	wantQuery(t, "select a from t limit 9223372036854775807", q)
}

// P10.1, P10.2: all clauses of a select.
func TestSelects(t *testing.T) {
	a, b := name("a"), name("b")
	wantQuery(t, "select * from t", api.Query{Op: api.QuerySelect, Select: api.Select{Items: []api.Item{{Star: true}}, From: []api.Source{{Table: "t"}}}})
	wantQuery(t, "select distinct a as k, *, b from t as x join u on a left join (select a from u) as y on b join v as z on a = b", api.Query{Op: api.QuerySelect, Select: api.Select{
		Distinct: true,
		Items:    []api.Item{{Expr: a, Name: "k"}, {Star: true}, {Expr: b}},
		From: []api.Source{
			{Table: "t", As: "x"},
			{Kind: api.SourceJoin, Table: "u", On: []api.Expr{a}},
			{Kind: api.SourceLeft, Query: []api.Query{selects("u")}, As: "y", On: []api.Expr{b}},
			{Kind: api.SourceJoin, Table: "v", As: "z", On: []api.Expr{node(api.OpEq, a, b)}},
		},
	}})
	wantQuery(t, "select a from (select a from t union all select a from u) as x where a group by a, b having b order by a", api.Query{Op: api.QuerySelect, Select: api.Select{
		Items:  []api.Item{{Expr: a}},
		From:   []api.Source{{Query: []api.Query{two(api.QueryUnion, selects("t"), selects("u"))}, As: "x"}},
		Where:  []api.Expr{a},
		Group:  []api.Expr{a, b},
		Having: []api.Expr{b},
	}, Order: []api.Order{{Expr: a}}})
	q := selects("t")
	q.Select.Having = []api.Expr{b}
	wantQuery(t, "select a from t having b", q)
	q = selects("t")
	q.Select.Group = []api.Expr{b}
	wantQuery(t, "select a from t group by b", q)
}

// P10.1: statements other than queries; each form of a column.
func TestStatements(t *testing.T) {
	a, b := name("a"), name("b")
	table := func(key int, l ...api.Column) api.Statement {
		return api.Statement{Op: api.DoTable, Table: api.Table{Name: "t", Columns: l, Key: key}}
	}
	for src, want := range map[string]api.Statement{
		"commit":  {Op: api.DoCommit},
		" abort ": {Op: api.DoAbort},
		"create table t (a int primary key, b text not null, c bool)": table(0, api.Column{Name: "a", Kind: api.Int}, api.Column{Name: "b", Kind: api.Text}, api.Column{Name: "c", Kind: api.Bool, Nullable: true}),
		"create table t (a int)":                                       table(-1, api.Column{Name: "a", Kind: api.Int, Nullable: true}),
		"create table t (a text not null)":                             table(-1, api.Column{Name: "a", Kind: api.Text}),
		"create table t (a text, b bool not null primary key)":         table(1, api.Column{Name: "a", Kind: api.Text, Nullable: true}, api.Column{Name: "b", Kind: api.Bool}),
		"create table t (a int, a int, a int primary key, b int)":      table(2, api.Column{Name: "a", Kind: api.Int, Nullable: true}, api.Column{Name: "a", Kind: api.Int, Nullable: true}, api.Column{Name: "a", Kind: api.Int}, api.Column{Name: "b", Kind: api.Int, Nullable: true}),
		"create view v as select a from t":                             {Op: api.DoView, Name: "v", Query: selects("t")},
		"create view v as (select a from t) union all select a from u": {Op: api.DoView, Name: "v", Query: two(api.QueryUnion, selects("t"), selects("u"))},
		"create view v as select a from t limit 2":                     {Op: api.DoView, Name: "v", Query: api.Query{Op: api.QuerySelect, Select: selects("t").Select, Limited: true, Limit: 2}},
		"insert into t values (1)":                                     {Op: api.DoInsert, Name: "t", Rows: [][]api.Expr{{integer(1)}}},
		"insert into t values (1, 'x', null), (-2, 'y', true), (a + b)": {Op: api.DoInsert, Name: "t", Rows: [][]api.Expr{
			{integer(1), text("x"), constant(api.Value{})},
			{integer(-2), text("y"), constant(api.Value{Kind: api.Bool, N: 1})},
			{node(api.OpAdd, a, b)},
		}},
		"delete from t":                         {Op: api.DoDelete, Name: "t"},
		"delete from t where a or b":            {Op: api.DoDelete, Name: "t", Where: []api.Expr{node(api.OpOr, a, b)}},
		"update t set a = b":                    {Op: api.DoUpdate, Name: "t", Sets: []api.Set{{Name: "a", Expr: b}}},
		"update t set a = 1, b = a = b where a": {Op: api.DoUpdate, Name: "t", Sets: []api.Set{{Name: "a", Expr: integer(1)}, {Name: "b", Expr: node(api.OpEq, a, b)}}, Where: []api.Expr{a}},
	} {
		wantStatement(t, src, want)
	}
}

// P10.3: long lists stay in their order, and chains of operators associate all along.
func TestLongLists(t *testing.T) {
	src, q := "select a", selects("t")
	sum, x := "0", integer(0)
	for i := range 300 {
		n := string(rune('a'+i%26)) + string(rune('0'+i/26%10)) + string(rune('0'+i/260))
		src += ", " + n
		q.Select.Items = append(q.Select.Items, api.Item{Expr: name(n)})
		sum += " - " + n
		x = node(api.OpSub, x, name(n))
	}
	wantQuery(t, src+" from t", q)
	wantExpr(t, sum, x)
}

// The chapter's first paragraph: the package imports api and scan, and nothing else of the project.
func TestImports(t *testing.T) {
	files, err := filepath.Glob("*.go")
	if err != nil || len(files) == 0 {
		t.Fatal(files, err)
	}
	for _, file := range files {
		if strings.HasSuffix(file, "_test.go") {
			continue
		}
		f, err := parser.ParseFile(token.NewFileSet(), file, nil, parser.ImportsOnly)
		if err != nil {
			t.Fatal(err)
		}
		for _, i := range f.Imports {
			if path := i.Path.Value; path != `"touchmark/api"` && path != `"touchmark/scan"` {
				t.Errorf("%s imports %s", file, path)
			}
		}
	}
}
