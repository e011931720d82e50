package print_test

import (
	"strconv"
	"strings"
	"testing"

	"touchmark/api"
	"touchmark/parse"
	"touchmark/print"
)

// nest puts an expression or a query within others, n times.
func nest[T any](x T, n int, outer func(T) T) T {
	for range n {
		x = outer(x)
	}
	return x
}

func negate(x api.Expr) api.Expr { return node(api.OpNeg, x) }

// P11.1: the depth counts expressions and queries, and nothing else that is nested.
func TestDepth(t *testing.T) {
	a := name("a")
	source := func(q api.Query) api.Query {
		return selects(api.Select{Items: []api.Item{{Star: true}}, From: []api.Source{{Query: []api.Query{q}, As: "x"}}})
	}
	for what, deepest := range map[string]func(n int) api.Query{ // n deep
		"prefixes": func(n int) api.Query { return item(nest(a, n-2, negate)) },
		"left operands": func(n int) api.Query {
			return item(nest(a, n-2, func(x api.Expr) api.Expr { return node(api.OpAdd, x, a) }))
		},
		"right operands": func(n int) api.Query {
			return item(nest(a, n-2, func(x api.Expr) api.Expr { return node(api.OpOr, a, x) }))
		},
		"functions": func(n int) api.Query {
			return item(nest(a, n-2, func(x api.Expr) api.Expr { return node(api.OpSum, x) }))
		},
		"unions": func(n int) api.Query {
			return nest(all("t"), n-1, func(q api.Query) api.Query { return two(api.QueryUnion, q, all("u")) })
		},
		"excepts": func(n int) api.Query {
			return nest(all("t"), n-1, func(q api.Query) api.Query { return two(api.QueryExcept, all("u"), q) })
		},
		"sources": func(n int) api.Query { return nest(all("t"), n-1, source) },
		"items of unions": func(n int) api.Query {
			return nest(item(nest(a, n-12, negate)), 10, func(q api.Query) api.Query { return two(api.QueryUnion, q, all("u")) })
		},
		"exists": func(n int) api.Query {
			q := all("t")
			if n%2 == 0 {
				q = item(a)
			}
			return nest(q, (n-1)/2, func(q api.Query) api.Query { return item(api.Expr{Op: api.OpExists, Query: []api.Query{q}}) })
		},
		"in": func(n int) api.Query {
			return item(nest(a, n-2, func(x api.Expr) api.Expr { return asks(api.OpNotIn, x) }))
		},
		"conditions": func(n int) api.Query {
			q := source(source(all("t")))
			q.Select.Where = []api.Expr{nest(a, n-2, negate)}
			return q
		},
		"a join": func(n int) api.Query {
			q := all("t")
			q.Select.From = append(q.Select.From, api.Source{Kind: api.SourceJoin, Table: "u", On: []api.Expr{nest(a, n-2, negate)}})
			return q
		},
		"an order": func(n int) api.Query {
			q := all("t")
			q.Order = []api.Order{{Expr: a}, {Expr: nest(a, n-2, negate)}}
			return q
		},
		"groups": func(n int) api.Query {
			q := all("t")
			q.Select.Group, q.Select.Having = []api.Expr{a, nest(a, n-2, negate)}, []api.Expr{nest(a, n-3, negate)}
			return q
		},
	} {
		for n, want := range map[int]api.Errno{23: api.OK, 24: api.OK, 25: api.ErrDeep, 26: api.ErrDeep, 60: api.ErrDeep} {
			wantQueryError(t, what+" "+strconv.Itoa(n), deepest(n), want)
		}
	}
	for n, want := range map[int]api.Errno{23: api.OK, 24: api.OK, 25: api.ErrDeep} {
		x := nest(a, n-1, negate)
		l := []api.Expr{x}
		wantError(t, "rows", api.Statement{Op: api.DoInsert, Name: "t", Rows: [][]api.Expr{{a}, {a, x}}}, want)
		wantError(t, "where", api.Statement{Op: api.DoDelete, Name: "t", Where: l}, want)
		wantError(t, "sets", api.Statement{Op: api.DoUpdate, Name: "t", Sets: []api.Set{{Name: "a", Expr: a}, {Name: "b", Expr: x}}}, want)
	}
}

// P11.1: whatever is well-formed or not, ErrDeep is ahead of all other errors.
func TestDepthOfWrongParts(t *testing.T) {
	a := name("a")
	deep := nest(a, 24, negate)
	l := []api.Expr{deep}
	deepQuery := item(nest(a, 23, negate))
	wrong := all("t")
	wrong.Parts = []api.Query{all("t"), item(nest(a, 22, negate))}
	wantQueryError(t, "parts of a select", wrong, api.ErrDeep)
	union := two(api.QueryUnion, all("t"), all("u"))
	union.Select.Where = []api.Expr{nest(a, 23, negate)}
	wantQueryError(t, "a union's condition", union, api.ErrDeep)
	star := all("t")
	star.Select.Items[0].Expr = nest(a, 23, negate)
	wantQueryError(t, "a star's expression", star, api.ErrDeep)
	star.Select.Items[0].Expr = nest(a, 22, negate)
	wantQueryError(t, "a star's expression", star, api.ErrForm)
	first := all("t")
	first.Select.From[0].On = []api.Expr{nest(a, 23, negate)}
	wantQueryError(t, "the first source's on", first, api.ErrDeep)
	for op := -1; op < 40; op++ {
		x := api.Expr{Op: op, Args: []api.Expr{a, a, a, nest(a, 22, negate)}}
		wantQueryError(t, "arguments of Op "+strconv.Itoa(op), item(x), api.ErrDeep)
		x = api.Expr{Op: op, Query: []api.Query{all("t"), all("t"), item(nest(a, 21, negate))}}
		wantQueryError(t, "queries of Op "+strconv.Itoa(op), item(x), api.ErrDeep)
	}
	for op := -1; op < 12; op++ {
		wantError(t, "rows", api.Statement{Op: op, Rows: [][]api.Expr{{}, l}}, api.ErrDeep)
		wantError(t, "where", api.Statement{Op: op, Where: append([]api.Expr{a}, l...)}, api.ErrDeep)
		wantError(t, "sets", api.Statement{Op: op, Sets: []api.Set{{Expr: deep}}}, api.ErrDeep)
		want := api.ErrForm // where a query does not belong, it is not looked into
		if op == api.DoQuery || op == api.DoView {
			want = api.ErrDeep
		}
		wantError(t, "query", api.Statement{Op: op, Query: deepQuery}, want)
	}
}

// P11.1: all nodes count, each as one.
func TestNodes(t *testing.T) {
	a := name("a")
	is := func(n int) []api.Expr { return many(n, func(int) api.Expr { return a }) }
	exists := api.Item{Expr: api.Expr{Op: api.OpExists, Query: []api.Query{all("t")}}} // with itself, 5 nodes
	for n, want := range map[int]api.Errno{511: api.OK, 512: api.OK, 513: api.ErrMany, 514: api.ErrMany, 5000: api.ErrMany} {
		half, odd := n/2, n%2
		q := all("t") // 3 nodes: the query, the item, the source
		q.Select.Items = many(n-2, func(int) api.Item { return api.Item{Star: true} })
		wantQueryError(t, "stars", q, want)
		q = item(a) // 4 nodes
		q.Select.Group = is(n - 4)
		wantQueryError(t, "expressions", q, want)
		q.Select.Items = many(half-2, func(int) api.Item { return api.Item{Expr: a, Name: "k"} })
		q.Select.Group = is(2 + odd)
		wantQueryError(t, "items", q, want)
		q.Select.Items = many(n/5-2, func(int) api.Item { return exists })
		q.Select.Group = is(8 + n%5)
		wantQueryError(t, "queries", q, want)
		q = all("t")
		q.Order = many(half-2, func(int) api.Order { return api.Order{Expr: a} })
		q.Select.Group = is(1 + odd)
		wantQueryError(t, "orders", q, want)
		q = all("t")
		q.Select.From = append(q.Select.From, many(half-2, func(int) api.Source { return api.Source{Kind: api.SourceJoin, Table: "t", On: is(1)} })...)
		q.Select.Group = is(1 + odd)
		wantQueryError(t, "sources", q, want)
		columns := many(n, func(int) api.Column { return api.Column{Name: "a", Kind: api.Int, Nullable: true} })
		wantError(t, "columns", api.Statement{Op: api.DoTable, Table: api.Table{Name: "t", Columns: columns, Key: -1}}, want)
		rows := many(half, func(int) []api.Expr { return is(1) })
		rows[0] = is(1 + odd)
		wantError(t, "rows", api.Statement{Op: api.DoInsert, Name: "t", Rows: rows}, want)
		wantError(t, "a row", api.Statement{Op: api.DoInsert, Name: "t", Rows: [][]api.Expr{is(n - 1)}}, want)
		sets := many(half, func(int) api.Set { return api.Set{Name: "a", Expr: a} })
		where := is(odd)
		wantError(t, "sets", api.Statement{Op: api.DoUpdate, Name: "t", Sets: sets, Where: where}, want)
		q = two(api.QueryUnion, two(api.QueryExcept, all("t"), all("t")), item(a))
		q.Parts[1].Select.Group = is(n - 12)
		wantQueryError(t, "parts", q, want)
		deleted := item(a)
		deleted.Select.Group = is(n - 6)
		in := api.Expr{Op: api.OpIn, Args: is(1), Query: []api.Query{deleted}}
		wantError(t, "where", api.Statement{Op: api.DoDelete, Name: "t", Where: []api.Expr{in}}, want)
	}
}

// P11.1: whatever is well-formed or not, ErrMany is ahead of all other errors but ErrDeep.
func TestNodesOfWrongParts(t *testing.T) {
	a := name("a")
	is := func(n int) []api.Expr { return many(n, func(int) api.Expr { return a }) }
	for n, want := range map[int]api.Errno{512: api.ErrForm, 513: api.ErrMany} {
		wantQueryError(t, "zero items", api.Query{Select: api.Select{Items: make([]api.Item, (n-1)/2), Where: is((n - 1) % 2)}}, want)
		wantQueryError(t, "parts", api.Query{Parts: make([]api.Query, n-1)}, want)
		wantQueryError(t, "sources", api.Query{Op: api.QueryUnion, Select: api.Select{From: make([]api.Source, n-1)}}, want)
		wantQueryError(t, "conditions", api.Query{Select: api.Select{Where: is(n - 1)}}, want)
		wantQueryError(t, "groups' conditions", api.Query{Select: api.Select{Having: is(n - 1)}}, want)
		wantQueryError(t, "on", api.Query{Select: api.Select{From: []api.Source{{On: is(n - 2)}}}}, want)
		wantQueryError(t, "queries of a source", api.Query{Select: api.Select{From: []api.Source{{Query: make([]api.Query, n-2)}}}}, want)
		wantQueryError(t, "a star's expression", api.Query{Select: api.Select{Items: []api.Item{{Star: true, Expr: api.Expr{Args: is(n - 3)}}}}}, want)
		wantQueryError(t, "stars with names", api.Query{Select: api.Select{Items: many(n-1, func(int) api.Item { return api.Item{Star: true, Name: "k"} })}}, want)
		inner := all("t")
		inner.Order = []api.Order{{Expr: api.Expr{Args: is(n - 6)}}}
		wantQueryError(t, "an inner order", api.Query{Parts: []api.Query{inner}}, want)
		for op := -1; op < 40; op++ {
			q := item(api.Expr{Op: op, Args: is(n - 5), Query: make([]api.Query, 1)})
			wantQueryError(t, "Op "+strconv.Itoa(op), q, want)
		}
		for op := -1; op < 12; op++ {
			what := "Op " + strconv.Itoa(op)
			wantError(t, what+" with rows", api.Statement{Op: op, Rows: make([][]api.Expr, n-1), Where: is(1), Table: api.Table{Key: -1}}, oneLess(op, want))
			wantError(t, what+" with sets", api.Statement{Op: op, Rows: make([][]api.Expr, n-2), Sets: make([]api.Set, 1)}, oneLess(op, want))
			wantError(t, what+" with where", api.Statement{Op: op, Where: is(n), Rows: [][]api.Expr{}}, oneLess(op, want))
		}
	}
	for op := -1; op < 12; op++ { // where they do not belong, they are not looked into
		long := all("t")
		long.Select.Group = is(600)
		want, wantTable := api.ErrForm, api.ErrForm
		switch op {
		case api.DoQuery, api.DoView:
			want = api.ErrMany
		case api.DoTable:
			wantTable = api.ErrMany
		}
		wantError(t, "a query of Op "+strconv.Itoa(op), api.Statement{Op: op, Query: long, Rows: [][]api.Expr{{}}}, want)
		wantError(t, "columns of Op "+strconv.Itoa(op), api.Statement{Op: op, Table: api.Table{Columns: make([]api.Column, 600)}}, wantTable)
	}
}

// oneLess is the error of a statement whose nodes come to one more if it has a query.
func oneLess(op int, want api.Errno) api.Errno {
	if op == api.DoQuery || op == api.DoView {
		return api.ErrMany
	}
	return want
}

// texts are elements whose texts, with a comma and a blank, have n bytes in all.
func texts(n int, letter string) []api.Expr {
	var l []api.Expr
	whole := text(strings.Repeat(letter, 64))
	size := len(strings.ReplaceAll(whole.Value.S, "'", "''")) + 4
	for n >= size+3 {
		l, n = append(l, whole), n-size
	}
	for n >= 9 {
		l, n = append(l, name("abcd")), n-6
	}
	return append(l, name("abcdef"[:n-2]))
}

// P11.1, P11.4: a text of MaxSource bytes is not too long, and is read as the tree; one of a byte more is too long.
func TestBytes(t *testing.T) {
	for _, letter := range []string{"x", "'", "\xff"} {
		for n, want := range map[int]api.Errno{4000: api.OK, 4095: api.OK, 4096: api.OK, 4097: api.ErrBytes, 4098: api.ErrBytes, 5000: api.ErrBytes} {
			row := api.Statement{Op: api.DoInsert, Name: "t", Rows: [][]api.Expr{texts(n-len("insert into t values (")+1, letter)}}
			group := all("t")
			group.Select.Group = texts(n-len("select * from t group by ")+2, letter)
			view := api.Statement{Op: api.DoView, Name: "v", Query: group}
			wantError(t, "a row of "+strconv.Itoa(n), row, want)
			wantQueryError(t, "groups of "+strconv.Itoa(n), group, want)
			if got, e := print.Statement(row); e == api.OK {
				if len(got) != n {
					t.Errorf("%d bytes, want %d", len(got), n)
				}
				wantStatement(t, row, got)
			}
			if got, e := print.Query(group); e == api.OK {
				if len(got) != n {
					t.Errorf("%d bytes, want %d", len(got), n)
				}
				wantQuery(t, group, got)
			}
			if n > 4096-len("create view v as ") {
				want = api.ErrBytes
			}
			wantError(t, "a view of "+strconv.Itoa(n), view, want)
		}
	}
}

// P11.1, P11.4: a source can be shorter than its tree's text, which may then be too long.
func TestTextsOfShortSources(t *testing.T) {
	for n, want := range map[int]api.Errno{225: api.OK, 226: api.OK, 227: api.ErrBytes} {
		src := "select a" + strings.Repeat(",abcdefghijklmnop", n) + " from t"
		q, e, _ := parse.Query(src)
		if e != api.OK {
			t.Fatalf("%s: %d", src, e)
		}
		wantQueryError(t, strconv.Itoa(n)+" items", q, want)
	}
}

// P11.1: errors of all kinds are told in their order.
func TestOrderOfErrors(t *testing.T) {
	long := many(70, func(int) api.Expr { return text(strings.Repeat("'", 64)) })
	faults := []struct {
		e   api.Errno
		set func(q *api.Query)
	}{
		{api.ErrDeep, func(q *api.Query) { q.Order = []api.Order{{Expr: nest(name("a"), 23, negate)}} }},
		{api.ErrMany, func(q *api.Query) { q.Select.Items = many(511, func(int) api.Item { return api.Item{Star: true} }) }},
		{api.ErrForm, func(q *api.Query) { q.Limit = 1 }},
		{api.ErrName, func(q *api.Query) { q.Select.From[0].As = "as" }},
		{api.ErrKind, func(q *api.Query) { q.Select.Where = []api.Expr{constant(api.Value{Kind: 9})} }},
		{api.ErrBytes, func(q *api.Query) { q.Select.Group = long }},
	}
	for chosen := range 1 << len(faults) {
		q, want, what := all("t"), api.OK, "errors"
		for i := len(faults) - 1; i >= 0; i-- {
			if chosen>>i&1 > 0 {
				faults[i].set(&q)
				want = faults[i].e
				what += " " + strconv.Itoa(int(want))
			}
		}
		wantQueryError(t, what, q, want)
	}
}

// R1: what is nested much too deep, or much too wide, is told, too.
func TestHuge(t *testing.T) {
	deep := nest(name("a"), 1<<16-3, negate)
	wantQueryError(t, "a deep expression", item(deep), api.ErrDeep)
	wantError(t, "a deep expression", api.Statement{Op: api.DoDelete, Name: "t", Where: []api.Expr{deep}}, api.ErrDeep)
	deepQuery := nest(all("t"), 1<<16-3, func(q api.Query) api.Query { return api.Query{Parts: []api.Query{q}} })
	wantQueryError(t, "a deep query", deepQuery, api.ErrDeep)
	if !print.Same(item(deep), item(deep)) || !print.Same(deepQuery, deepQuery) {
		t.Error("the same deep queries: differ")
	}
	other := nest(name("b"), 1<<16-3, negate)
	if print.Same(item(deep), item(other)) {
		t.Error("deep queries that differ: are the same")
	}
	wide := all("t")
	wide.Select.Group = make([]api.Expr, 1<<20)
	wantQueryError(t, "a wide query", wide, api.ErrMany)
	wantError(t, "a wide table", api.Statement{Op: api.DoTable, Table: api.Table{Columns: make([]api.Column, 1<<20)}}, api.ErrMany)
	wantError(t, "a table elsewhere", api.Statement{Op: api.DoAbort, Table: api.Table{Columns: make([]api.Column, 1<<20)}}, api.ErrForm)
	huge := strings.Repeat("a", 1<<24)
	wantExprError(t, "a huge name", name(huge), api.ErrName)
	wantExprError(t, "a huge string", text(huge), api.ErrKind)
	if q := item(text(huge)); !print.Same(q, item(text(huge))) || print.Same(q, item(text(huge+"b"))) {
		t.Error("huge strings")
	}
}
