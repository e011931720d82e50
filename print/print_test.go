package print_test

import (
	"go/parser"
	"go/token"
	"path/filepath"
	"strings"
	"testing"

	"touchmark/api"
	"touchmark/parse"
	"touchmark/print"
)

func name(s string) api.Expr { return api.Expr{Op: api.OpName, Name: s} }

func of(table, s string) api.Expr { return api.Expr{Op: api.OpName, Table: table, Name: s} }

func constant(v api.Value) api.Expr { return api.Expr{Op: api.OpValue, Value: v} }

func integer(n int64) api.Expr { return constant(api.Value{Kind: api.Int, N: n}) }

func text(s string) api.Expr { return constant(api.Value{Kind: api.Text, S: s}) }

func node(op int, args ...api.Expr) api.Expr { return api.Expr{Op: op, Args: args} }

// asks is an expression with the query select * from u.
func asks(op int, args ...api.Expr) api.Expr {
	return api.Expr{Op: op, Args: args, Query: []api.Query{all("u")}}
}

// item is the query select x from t.
func item(x api.Expr) api.Query {
	return selects(api.Select{Items: []api.Item{{Expr: x}}, From: []api.Source{{Table: "t"}}})
}

// all is a query of all columns of a table.
func all(table string) api.Query {
	return selects(api.Select{Items: []api.Item{{Star: true}}, From: []api.Source{{Table: table}}})
}

func selects(s api.Select) api.Query { return api.Query{Op: api.QuerySelect, Select: s} }

func two(op int, a, b api.Query) api.Query { return api.Query{Op: op, Parts: []api.Query{a, b}} }

// wantStatement asks for the text of a statement, and for nothing else behind that text.
func wantStatement(t *testing.T, s api.Statement, want string) {
	t.Helper()
	if e := print.Check(s); e != api.OK {
		t.Errorf("%s: Check: %d", want, e)
	}
	if got, e := print.Statement(s); e != api.OK || got != want {
		t.Errorf("%s: %s, %d", want, got, e)
	}
	if back, e, _ := parse.Statement(want); e != api.OK || !isSame(back, s) {
		t.Errorf("%s: is %+v, %d, not %+v", want, back, e, s)
	}
}

func wantQuery(t *testing.T, q api.Query, want string) {
	t.Helper()
	if e := print.CheckQuery(q); e != api.OK {
		t.Errorf("%s: CheckQuery: %d", want, e)
	}
	if got, e := print.Query(q); e != api.OK || got != want {
		t.Errorf("%s: %s, %d", want, got, e)
	}
	wantStatement(t, api.Statement{Op: api.DoQuery, Query: q}, want)
}

// wantExpr asks for the text of an expression, wherever one can stand.
func wantExpr(t *testing.T, x api.Expr, want string) {
	t.Helper()
	wantQuery(t, item(x), "select "+want+" from t")
	q := all("t")
	q.Select.Items = []api.Item{{Star: true}, {Expr: x, Name: "k"}, {Expr: x}}
	q.Select.From = append(q.Select.From, api.Source{Kind: api.SourceJoin, Table: "u", On: []api.Expr{x}})
	q.Select.Where, q.Select.Group, q.Select.Having = []api.Expr{x}, []api.Expr{x, x}, []api.Expr{x}
	q.Order = []api.Order{{Expr: x, Down: true}, {Expr: x}}
	wantQuery(t, q, strings.ReplaceAll("select *, X as k, X from t join u on X where X group by X, X having X order by X desc, X", "X", want))
	wantStatement(t, api.Statement{Op: api.DoInsert, Name: "t", Rows: [][]api.Expr{{x, x}, {x}}}, strings.ReplaceAll("insert into t values (X, X), (X)", "X", want))
	wantStatement(t, api.Statement{Op: api.DoDelete, Name: "t", Where: []api.Expr{x}}, "delete from t where "+want)
	wantStatement(t, api.Statement{Op: api.DoUpdate, Name: "t", Sets: []api.Set{{Name: "b", Expr: x}}, Where: []api.Expr{x}}, "update t set b = "+want+" where "+want)
	wantExprWithin(t, x, want)
}

// wantExprWithin asks for the text of an expression where parentheses are around it in any case.
func wantExprWithin(t *testing.T, x api.Expr, want string) {
	t.Helper()
	for op, function := range map[int]string{api.OpCount: "count", api.OpSum: "sum", api.OpMin: "min", api.OpMax: "max"} {
		wantQuery(t, item(node(op, x)), "select "+function+"("+want+") from t")
	}
	in := api.Expr{Op: api.OpIn, Args: []api.Expr{name("a")}, Query: []api.Query{item(x)}}
	wantQuery(t, item(in), "select a in (select "+want+" from t) from t")
}

// P11.2: operands, and functions.
func TestOperands(t *testing.T) {
	for want, x := range map[string]api.Expr{
		"a":                                 name("a"),
		"x.a":                               of("x", "a"),
		"abcdefghijklmn90":                  name("abcdefghijklmn90"),
		"selects.null1":                     of("selects", "null1"),
		"null":                              constant(api.Value{}),
		"true":                              constant(api.Value{Kind: api.Bool, N: 1}),
		"false":                             constant(api.Value{Kind: api.Bool}),
		"0":                                 integer(0),
		"5":                                 integer(5),
		"-5":                                integer(-5),
		"9223372036854775807":               integer(1<<63 - 1),
		"-9223372036854775807":              integer(-1<<63 + 1),
		"-9223372036854775808":              integer(-1 << 63),
		"''":                                text(""),
		"''''":                              text("'"),
		"'it''s'":                           text("it's"),
		"'''a''''b'''":                      text("'a''b'"),
		"'(  not  )'":                       text("(  not  )"),
		"'-'":                               text("-"),
		"'\x00\xff\n\\\"%'":                 text("\x00\xff\n\\\"%"),
		"count(*)":                          {Op: api.OpCountAll},
		"count(a)":                          node(api.OpCount, name("a")),
		"sum(x.a)":                          node(api.OpSum, of("x", "a")),
		"min(a + b)":                        node(api.OpMin, node(api.OpAdd, name("a"), name("b"))),
		"max(a or b)":                       node(api.OpMax, node(api.OpOr, name("a"), name("b"))),
		"count(count(*))":                   node(api.OpCount, api.Expr{Op: api.OpCountAll}),
		"max(-(5))":                         node(api.OpMax, node(api.OpNeg, integer(5))),
		"exists (select * from u)":          asks(api.OpExists),
		"not exists (select * from u)":      asks(api.OpNotExists),
		"a in (select * from u)":            asks(api.OpIn, name("a")),
		"a not in (select * from u)":        asks(api.OpNotIn, name("a")),
		"count(exists (select * from u))":   node(api.OpCount, asks(api.OpExists)),
		"min(not exists (select * from u))": node(api.OpMin, asks(api.OpNotExists)),
	} {
		wantExpr(t, x, want)
	}
	long := strings.Repeat("'", 64)
	wantExpr(t, text(long), "'"+long+long+"'")
}

// P11.2: each operator has its symbol, and blanks around it.
func TestOperators(t *testing.T) {
	for op, symbol := range map[int]string{
		api.OpAdd: "+", api.OpSub: "-", api.OpMul: "*", api.OpDiv: "/", api.OpRem: "%",
		api.OpEq: "=", api.OpNe: "<>", api.OpLt: "<", api.OpLe: "<=", api.OpGt: ">", api.OpGe: ">=",
		api.OpAnd: "and", api.OpOr: "or",
	} {
		wantExpr(t, node(op, name("a"), of("x", "b")), "a "+symbol+" x.b")
		wantExpr(t, node(op, integer(-5), integer(5)), "-5 "+symbol+" 5")
		wantExpr(t, node(op, integer(5), integer(-5)), "5 "+symbol+" -5")
		wantExpr(t, node(op, node(api.OpNeg, name("a")), node(api.OpNeg, integer(0))), "-a "+symbol+" -(0)")
		wantExpr(t, node(op, text("a"), asks(api.OpExists)), "'a' "+symbol+" exists (select * from u)")
		wantExpr(t, node(op, asks(api.OpExists), api.Expr{Op: api.OpCountAll}), "exists (select * from u) "+symbol+" count(*)")
	}
	wantExpr(t, node(api.OpIsNull, name("a")), "a is null")
	wantExpr(t, node(api.OpNotNull, name("a")), "a is not null")
	wantExpr(t, node(api.OpIsNull, constant(api.Value{})), "null is null")
	wantExpr(t, node(api.OpNot, name("a")), "not a")
	wantExpr(t, node(api.OpNeg, name("a")), "-a")
}

// levels are operators with each precedence, from those that bind least on: expressions, and their texts.
func levels() ([]api.Expr, []string) {
	a, b := name("a"), name("b")
	return []api.Expr{
		node(api.OpOr, a, b), node(api.OpAnd, a, b), node(api.OpNot, a), asks(api.OpNotExists),
		node(api.OpEq, a, b), node(api.OpNe, a, b), node(api.OpLt, a, b), node(api.OpLe, a, b), node(api.OpGt, a, b), node(api.OpGe, a, b),
		node(api.OpIsNull, a), node(api.OpNotNull, a), asks(api.OpIn, a), asks(api.OpNotIn, a),
		node(api.OpAdd, a, b), node(api.OpSub, a, b), node(api.OpMul, a, b), node(api.OpDiv, a, b), node(api.OpRem, a, b),
		node(api.OpNeg, a), a,
	}, []string{
		"a or b", "a and b", "not a", "not exists (select * from u)",
		"a = b", "a <> b", "a < b", "a <= b", "a > b", "a >= b",
		"a is null", "a is not null", "a in (select * from u)", "a not in (select * from u)",
		"a + b", "a - b", "a * b", "a / b", "a % b",
		"-a", "a",
	}
}

// P11.2: parentheses are around an operand that binds less than its place asks for, and around no other.
func TestParentheses(t *testing.T) {
	const or, and, not, sum, product, ahead = 0, 1, 2, 14, 16, 19 // where in levels each precedence begins
	c := name("c")
	xs, texts := levels()
	want := func(x api.Expr, i, least int, form string) {
		t.Helper()
		operand := texts[i]
		if i < least {
			operand = "(" + operand + ")"
		}
		wantExpr(t, x, strings.Replace(form, "X", operand, 1))
	}
	for i, x := range xs {
		want(node(api.OpOr, x, c), i, or, "X or c")
		want(node(api.OpOr, c, x), i, and, "c or X")
		want(node(api.OpAnd, x, c), i, and, "X and c")
		want(node(api.OpAnd, c, x), i, not, "c and X")
		want(node(api.OpNot, x), i, not, "not X")
		for op, symbol := range map[int]string{api.OpEq: "=", api.OpNe: "<>", api.OpLt: "<", api.OpLe: "<=", api.OpGt: ">", api.OpGe: ">="} {
			want(node(op, x, c), i, sum, "X "+symbol+" c")
			want(node(op, c, x), i, sum, "c "+symbol+" X")
		}
		want(node(api.OpIsNull, x), i, sum, "X is null")
		want(node(api.OpNotNull, x), i, sum, "X is not null")
		want(asks(api.OpIn, x), i, sum, "X in (select * from u)")
		want(asks(api.OpNotIn, x), i, sum, "X not in (select * from u)")
		for op, symbol := range map[int]string{api.OpAdd: "+", api.OpSub: "-"} {
			want(node(op, x, c), i, sum, "X "+symbol+" c")
			want(node(op, c, x), i, product, "c "+symbol+" X")
		}
		for op, symbol := range map[int]string{api.OpMul: "*", api.OpDiv: "/", api.OpRem: "%"} {
			want(node(op, x, c), i, product, "X "+symbol+" c")
			want(node(op, c, x), i, ahead, "c "+symbol+" X")
		}
		want(node(api.OpNeg, x), i, ahead, "-X")
		want(node(api.OpMax, x), i, or, "max(X)")
	}
}

// P11.2: numbers, and not exists, behind a prefix that would belong to them.
func TestPrefixes(t *testing.T) {
	a, b := name("a"), name("b")
	const q = "(select * from u)"
	exists, notExists := asks(api.OpExists), asks(api.OpNotExists)
	not := func(x api.Expr) api.Expr { return node(api.OpNot, x) }
	neg := func(x api.Expr) api.Expr { return node(api.OpNeg, x) }
	for want, x := range map[string]api.Expr{
		"-(5)": neg(integer(5)), "-(0)": neg(integer(0)), "--5": neg(integer(-5)), "--a": neg(neg(a)),
		"--(5)": neg(neg(integer(5))), "---5": neg(neg(integer(-5))),
		"--9223372036854775808":                  neg(integer(-1 << 63)),
		"-(9223372036854775807)":                 neg(integer(1<<63 - 1)),
		"-null":                                  neg(constant(api.Value{})),
		"-'5'":                                   neg(text("5")),
		"-true":                                  neg(constant(api.Value{Kind: api.Bool, N: 1})),
		"-count(*)":                              neg(api.Expr{Op: api.OpCountAll}),
		"-max(5)":                                neg(node(api.OpMax, integer(5))),
		"-(5 + a)":                               neg(node(api.OpAdd, integer(5), a)),
		"-(5 * a)":                               neg(node(api.OpMul, integer(5), a)),
		"-(5) * a":                               node(api.OpMul, neg(integer(5)), a),
		"-5 * a":                                 node(api.OpMul, integer(-5), a),
		"a - 5":                                  node(api.OpSub, a, integer(5)),
		"a - -5":                                 node(api.OpSub, a, integer(-5)),
		"a - -(5)":                               node(api.OpSub, a, neg(integer(5))),
		"a - 5 * b":                              node(api.OpSub, a, node(api.OpMul, integer(5), b)),
		"a - (5 - b)":                            node(api.OpSub, a, node(api.OpSub, integer(5), b)),
		"-exists " + q:                           neg(exists),
		"-(not exists " + q + ")":                neg(notExists),
		"not (exists " + q + ")":                 not(exists),
		"not not (exists " + q + ")":             not(not(exists)),
		"not not exists " + q:                    not(notExists),
		"not not not exists " + q:                not(not(notExists)),
		"not (exists " + q + ") = b":             not(node(api.OpEq, exists, b)),
		"not b = exists " + q:                    not(node(api.OpEq, b, exists)),
		"not (exists " + q + ") = exists " + q:   not(node(api.OpEq, exists, exists)),
		"not (not exists " + q + ") = b":         not(node(api.OpEq, notExists, b)),
		"not (exists " + q + ") is null":         not(node(api.OpIsNull, exists)),
		"not (exists " + q + ") is not null":     not(node(api.OpNotNull, exists)),
		"not (exists " + q + ") in " + q:         not(asks(api.OpIn, exists)),
		"not (exists " + q + ") not in " + q:     not(asks(api.OpNotIn, exists)),
		"not (exists " + q + ") + a * b - 1 < b": not(node(api.OpLt, node(api.OpSub, node(api.OpAdd, exists, node(api.OpMul, a, b)), integer(1)), b)),
		"not (exists " + q + ") * a / b % a":     not(node(api.OpRem, node(api.OpDiv, node(api.OpMul, exists, a), b), a)),
		"not (exists " + q + " and b)":           not(node(api.OpAnd, exists, b)),
		"not -exists " + q:                       not(neg(exists)),
		"not -exists " + q + " = b":              not(node(api.OpEq, neg(exists), b)),
		"not max(exists " + q + ")":              not(node(api.OpMax, exists)),
		"not (exists " + q + ") and b":           node(api.OpAnd, not(exists), b),
		"exists " + q + " and not (exists " + q + ")":     node(api.OpAnd, exists, not(exists)),
		"not (exists " + q + ") or exists " + q:           node(api.OpOr, not(exists), exists),
		"a is not null and exists " + q:                   node(api.OpAnd, node(api.OpNotNull, a), exists),
		"(not (exists " + q + ")) = b":                    node(api.OpEq, not(exists), b),
		"(not exists " + q + ") = (not exists " + q + ")": node(api.OpEq, notExists, notExists),
		"not exists " + q + " and not exists " + q:        node(api.OpAnd, notExists, notExists),
	} {
		wantExpr(t, x, want)
	}
}

// P11.2: sequences of operators associate to the left.
func TestSequences(t *testing.T) {
	a, b, c := name("a"), name("b"), name("c")
	for op, symbol := range map[int]string{api.OpOr: "or", api.OpAnd: "and", api.OpAdd: "+", api.OpSub: "-", api.OpMul: "*", api.OpDiv: "/", api.OpRem: "%"} {
		wantExpr(t, node(op, node(op, a, b), c), strings.ReplaceAll("a X b X c", "X", symbol))
		wantExpr(t, node(op, a, node(op, b, c)), strings.ReplaceAll("a X (b X c)", "X", symbol))
	}
	wantExpr(t, node(api.OpOr, node(api.OpNot, a), node(api.OpAnd, b, c)), "not a or b and c")
	wantExpr(t, node(api.OpAdd, node(api.OpSub, a, b), c), "a - b + c")
	wantExpr(t, node(api.OpAdd, a, node(api.OpSub, b, c)), "a + (b - c)")
	wantExpr(t, node(api.OpMul, node(api.OpDiv, a, b), node(api.OpRem, b, c)), "a / b * (b % c)")
	wantExpr(t, node(api.OpEq, a, node(api.OpEq, b, c)), "a = (b = c)")
	wantExpr(t, node(api.OpEq, node(api.OpEq, a, b), c), "(a = b) = c")
}

// P11.2: the parts of a query.
func TestQueries(t *testing.T) {
	a := name("a")
	for want, q := range map[string]api.Query{
		"select * from t":          all("t"),
		"select a from t":          item(a),
		"select distinct * from t": selects(api.Select{Distinct: true, Items: []api.Item{{Star: true}}, From: []api.Source{{Table: "t"}}}),
		"select *, a, *, a as b, not a as c from t": selects(api.Select{
			Items: []api.Item{{Star: true}, {Expr: a}, {Star: true}, {Expr: a, Name: "b"}, {Expr: node(api.OpNot, a), Name: "c"}},
			From:  []api.Source{{Table: "t"}},
		}),
		"select * from t as x":                 selects(api.Select{Items: all("t").Select.Items, From: []api.Source{{Table: "t", As: "x"}}}),
		"select * from (select * from t) as x": selects(api.Select{Items: all("t").Select.Items, From: []api.Source{{Query: []api.Query{all("t")}, As: "x"}}}),
		"select * from (select * from t union all select * from u) as x left join u on a join (select * from v) as y on a = a left join w as z on true": selects(api.Select{
			Items: all("t").Select.Items,
			From: []api.Source{
				{Query: []api.Query{two(api.QueryUnion, all("t"), all("u"))}, As: "x"},
				{Kind: api.SourceLeft, Table: "u", On: []api.Expr{a}},
				{Kind: api.SourceJoin, Query: []api.Query{all("v")}, As: "y", On: []api.Expr{node(api.OpEq, a, a)}},
				{Kind: api.SourceLeft, Table: "w", As: "z", On: []api.Expr{constant(api.Value{Kind: api.Bool, N: 1})}},
			},
		}),
		"select * from t where a":      selects(api.Select{Items: all("t").Select.Items, From: all("t").Select.From, Where: []api.Expr{a}}),
		"select * from t group by a":   selects(api.Select{Items: all("t").Select.Items, From: all("t").Select.From, Group: []api.Expr{a}}),
		"select * from t having a = 1": selects(api.Select{Items: all("t").Select.Items, From: all("t").Select.From, Having: []api.Expr{node(api.OpEq, a, integer(1))}}),
		"select distinct a as k from t where a group by x.a, a, 1 having not a order by a desc, -a, 1 desc limit 9223372036854775807": {
			Op: api.QuerySelect,
			Select: api.Select{
				Distinct: true, Items: []api.Item{{Expr: a, Name: "k"}}, From: []api.Source{{Table: "t"}},
				Where: []api.Expr{a}, Group: []api.Expr{of("x", "a"), a, integer(1)}, Having: []api.Expr{node(api.OpNot, a)},
			},
			Order:   []api.Order{{Expr: a, Down: true}, {Expr: node(api.OpNeg, a)}, {Expr: integer(1), Down: true}},
			Limited: true, Limit: 1<<63 - 1,
		},
		"select * from t limit 0":    {Op: api.QuerySelect, Select: all("t").Select, Limited: true},
		"select * from t order by a": {Op: api.QuerySelect, Select: all("t").Select, Order: []api.Order{{Expr: a}}},
	} {
		wantQuery(t, q, want)
		wantStatement(t, api.Statement{Op: api.DoView, Name: "v", Query: q}, "create view v as "+want)
	}
}

// P11.2: sequences of union all and except all associate to the left.
func TestUnions(t *testing.T) {
	const union, except = api.QueryUnion, api.QueryExcept
	x, y, z := all("x"), all("y"), all("z")
	words := strings.NewReplacer("x", "select * from x", "y", "select * from y", "z", "select * from z", "+", "union all", "-", "except all")
	for form, q := range map[string]api.Query{
		"x + y":                 two(union, x, y),
		"x - y":                 two(except, x, y),
		"x + y + z":             two(union, two(union, x, y), z),
		"x + y - z":             two(except, two(union, x, y), z),
		"x - y + z":             two(union, two(except, x, y), z),
		"x - y - z":             two(except, two(except, x, y), z),
		"x + (y + z)":           two(union, x, two(union, y, z)),
		"x - (y + z)":           two(except, x, two(union, y, z)),
		"x - (y - z)":           two(except, x, two(except, y, z)),
		"x + (y - (z + x))":     two(union, x, two(except, y, two(union, z, x))),
		"x + (y - z + x)":       two(union, x, two(union, two(except, y, z), x)),
		"x + y - (y - z)":       two(except, two(union, x, y), two(except, y, z)),
		"x + (y - x) - (z + y)": two(except, two(union, x, two(except, y, x)), two(union, z, y)),
	} {
		want := words.Replace(form)
		wantQuery(t, q, want)
		wantExpr(t, api.Expr{Op: api.OpNotIn, Args: []api.Expr{name("a")}, Query: []api.Query{q}}, "a not in ("+want+")")
		q.Order, q.Limited, q.Limit = []api.Order{{Expr: name("a")}}, true, 7
		wantQuery(t, q, want+" order by a limit 7")
	}
}

// P11.2: statements other than queries.
func TestStatements(t *testing.T) {
	a := name("a")
	column := func(name string, kind int, nullable bool) api.Column {
		return api.Column{Name: name, Kind: kind, Nullable: nullable}
	}
	table := func(key int, l ...api.Column) api.Statement {
		return api.Statement{Op: api.DoTable, Table: api.Table{Name: "t", Columns: l, Key: key}}
	}
	for want, s := range map[string]api.Statement{
		"create table t (a int)":                                                table(-1, column("a", api.Int, true)),
		"create table t (a text)":                                               table(-1, column("a", api.Text, true)),
		"create table t (a bool)":                                               table(-1, column("a", api.Bool, true)),
		"create table t (a bool not null)":                                      table(-1, column("a", api.Bool, false)),
		"create table t (a int primary key)":                                    table(0, column("a", api.Int, false)),
		"create table t (a int primary key, b text not null, c bool)":           table(0, column("a", api.Int, false), column("b", api.Text, false), column("c", api.Bool, true)),
		"create table t (a int not null, a text not null, a bool primary key)":  table(2, column("a", api.Int, false), column("a", api.Text, false), column("a", api.Bool, false)),
		"create view v as select * from t":                                      {Op: api.DoView, Name: "v", Query: all("t")},
		"insert into t values (a)":                                              {Op: api.DoInsert, Name: "t", Rows: [][]api.Expr{{a}}},
		"insert into t values (1, 'it''s', null), (true, -9, a + 1), (false)":   {Op: api.DoInsert, Name: "t", Rows: [][]api.Expr{{integer(1), text("it's"), constant(api.Value{})}, {constant(api.Value{Kind: api.Bool, N: 1}), integer(-9), node(api.OpAdd, a, integer(1))}, {constant(api.Value{Kind: api.Bool})}}},
		"delete from t":                                                         {Op: api.DoDelete, Name: "t"},
		"delete from t where a = 1":                                             {Op: api.DoDelete, Name: "t", Where: []api.Expr{node(api.OpEq, a, integer(1))}},
		"update t set a = 1":                                                    {Op: api.DoUpdate, Name: "t", Sets: []api.Set{{Name: "a", Expr: integer(1)}}},
		"update t set a = a = 1, b = not a, c = (a = 1) = (a = 1) where a or a": {Op: api.DoUpdate, Name: "t", Sets: []api.Set{{Name: "a", Expr: node(api.OpEq, a, integer(1))}, {Name: "b", Expr: node(api.OpNot, a)}, {Name: "c", Expr: node(api.OpEq, node(api.OpEq, a, integer(1)), node(api.OpEq, a, integer(1)))}}, Where: []api.Expr{node(api.OpOr, a, a)}},
		"commit": {Op: api.DoCommit},
		"abort":  {Op: api.DoAbort},
	} {
		wantStatement(t, s, want)
	}
}

// P11.4: a text is its tree's, and that of no other way to write it.
func TestOtherWays(t *testing.T) {
	for src, want := range map[string]string{
		"select((a))from t":                                  "select a from t",
		"select*from((select*from t))as x":                   "select * from (select * from t) as x",
		"((select a from t))union all(select b from u)":      "select a from t union all select b from u",
		"(select a from t) order by a limit 3":               "select a from t order by a limit 3",
		"select - 5,-( 5 ),- -5,-a,-(a)from t":               "select -5, -(5), --5, -a, -a from t",
		"select count ( * ) , sum ( a ) from t":              "select count(*), sum(a) from t",
		"select x . a from t":                                "select x.a from t",
		"select not(not exists(select a from t)) from t":     "select not not exists (select a from t) from t",
		"select not(exists(select a from t)= b)from t":       "select not (exists (select a from t)) = b from t",
		"select (a * b) + c, a + (b * c), (a) + (b) from t":  "select a * b + c, a + b * c, a + b from t",
		"create table t(a int not null primary key,b bool)":  "create table t (a int primary key, b bool)",
		"insert\tinto t\nvalues(1),\r(((2)))":                "insert into t values (1), (2)",
		"select (select1) from (select a from t) as select2": "select select1 from (select a from t) as select2",
	} {
		s, e, _ := parse.Statement(src)
		if e != api.OK {
			t.Fatalf("%s: %d", src, e)
		}
		wantStatement(t, s, want)
	}
}

// Of the project, the chapter lets package print import these alone.
func TestImports(t *testing.T) {
	files, _ := filepath.Glob("*.go")
	for _, f := range files {
		if strings.HasSuffix(f, "_test.go") {
			continue
		}
		tree, err := parser.ParseFile(token.NewFileSet(), f, nil, parser.ImportsOnly)
		if err != nil {
			t.Fatal(err)
		}
		for _, i := range tree.Imports {
			if path := strings.Trim(i.Path.Value, `"`); strings.HasPrefix(path, "touchmark/") && !strings.Contains(" api value scan parse ", " "+path[len("touchmark/"):]+" ") {
				t.Errorf("%s imports %s", f, path)
			}
		}
	}
}
