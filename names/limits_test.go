package names_test

import (
	"reflect"
	"slices"
	"strconv"
	"strings"
	"testing"
	"unsafe"

	"touchmark/api"
	"touchmark/names"
	"touchmark/print"
)

func name(s string) api.Expr { return api.Expr{Op: api.OpName, Name: s} }

func node(op int, args ...api.Expr) api.Expr { return api.Expr{Op: op, Args: args} }

// selects is the query select .. from t, with a list of items.
func selects(items ...api.Item) api.Query {
	return api.Query{Op: api.QuerySelect, Select: api.Select{Items: items, From: []api.Source{{Table: "t"}}}}
}

// in is the query select x from (q) as s.
func in(q api.Query, x ...api.Item) api.Query {
	w := selects(x...)
	w.Select.From[0] = api.Source{Query: []api.Query{q}, As: "s"}
	return w
}

func star() api.Item { return api.Item{Star: true} }

// P12.1, P12.3: what is wrong with a tree is told ahead of tables that are not valid, and these ahead of what is wrong with the query.
func TestTreesFirst(t *testing.T) {
	deep := name("nosuch")
	for range 24 {
		deep = node(api.OpNeg, deep)
	}
	wide, long := selects(star()), selects(star())
	for range 510 {
		wide.Select.Group = append(wide.Select.Group, name("nosuch"))
	}
	for range 70 {
		long.Select.Group = append(long.Select.Group, api.Expr{Op: api.OpValue, Value: api.Value{Kind: api.Text, S: strings.Repeat("x", 64)}})
	}
	misnamed := selects(star(), api.Item{Expr: name("in")})
	invalid := selects(star(), api.Item{Expr: api.Expr{Op: api.OpValue, Value: api.Value{Kind: 4}}})
	bad := tables()
	bad[0].Key = 1
	for i, c := range []struct {
		q api.Query
		e api.Errno
	}{
		{selects(api.Item{Expr: deep}), api.ErrDeep}, {wide, api.ErrMany}, {long, api.ErrBytes}, {misnamed, api.ErrName}, {invalid, api.ErrKind},
		{api.Query{}, api.ErrForm}, {selects(), api.ErrForm}, {api.Query{Op: 4}, api.ErrForm}, {selects(api.Item{}), api.ErrForm}, {selects(api.Item{Expr: node(api.OpColumn)}), api.ErrForm},
		{api.Query{Op: api.QueryUnion, Parts: []api.Query{selects(star())}}, api.ErrForm},
		{in(api.Query{Op: api.QuerySelect, Select: selects(star()).Select, Limited: true}, star()), api.ErrForm},
	} {
		for _, l := range [][]api.Table{tables(), bad, nil} {
			if got, e := names.Query(l, c.q); e != c.e || len(got) > 0 {
				t.Errorf("query %d: %d, not %d", i, e, c.e)
			}
			for _, s := range []api.Statement{{Op: api.DoQuery, Query: c.q}, {Op: api.DoView, Name: "v", Query: c.q}} {
				if e := names.Statement(l, -1, s); e != c.e {
					t.Errorf("query %d as statement %d: %d, not %d", i, s.Op, e, c.e)
				}
			}
		}
	}
	if _, e := names.Query(bad, selects(api.Item{Expr: name("nosuch")})); e != api.ErrArg {
		t.Errorf("wrong tables: %d", e)
	}
}

// R1: queries as deep and as wide as they can be.
func TestLargeQueries(t *testing.T) {
	q := selects(star())
	for range 23 {
		q = in(q, star())
	}
	if l, e := names.Query(tables(), q); e != api.OK || tell(l) != "a int, b text?, c bool?" {
		t.Errorf("24 queries: %s, %d", tell(l), e)
	}
	if !names.Keeps(q) {
		t.Error("24 queries: not kept")
	}
	x := name("a")
	for range 22 {
		x = node(api.OpNeg, x)
	}
	q = selects(api.Item{Expr: x})
	if l, e := names.Query(tables(), q); e != api.OK || tell(l) != "- int" {
		t.Errorf("22 signs: %s, %d", tell(l), e)
	}
	q = selects()
	for range 510 {
		q.Select.Items = append(q.Select.Items, star())
	}
	if l, e := names.Query(tables(), q); e != api.OK || len(l) != 1530 || l[1529] != (api.Column{Name: "c", Kind: api.Bool, Nullable: true}) {
		t.Errorf("510 stars: %d, %d", len(l), e)
	}
	q = selects(star())
	for i := range 100 {
		q.Select.From = append(q.Select.From, api.Source{Kind: api.SourceJoin + i%2, Table: "u", As: "u" + strconv.Itoa(i), On: []api.Expr{{Op: api.OpName, Table: "u" + strconv.Itoa(i/2), Name: "d"}}})
		q.Select.From[i+1].On[0] = node(api.OpIsNull, q.Select.From[i+1].On[0])
	}
	if l, e := names.Query(tables(), q); e != api.OK || len(l) != 203 {
		t.Errorf("101 sources: %d, %d", len(l), e)
	}
}

// R1: stars of stars end, however many columns they ask for: with an error, where no list of columns could have so many bytes.
func TestStarsOfStars(t *testing.T) {
	var many []api.Item
	for range 68 {
		many = append(many, star())
	}
	q := selects(api.Item{Expr: name("a")})
	for range 4 {
		q = in(q, many...)
	}
	if l, e := names.Query(tables(), q); e == api.OK || len(l) > 0 {
		t.Errorf("four times: %d, %d", len(l), e)
	}
	for range 3 {
		q = in(q, many...)
	}
	union := api.Query{Op: api.QueryUnion, Parts: []api.Query{q, selects(star())}}
	for i, x := range []api.Query{q, in(q, api.Item{Expr: api.Expr{Op: api.OpValue}}), union} {
		if e := print.CheckQuery(x); e != api.OK {
			t.Fatalf("query %d: %d", i, e)
		}
		if l, e := names.Query(tables(), x); e == api.OK || len(l) > 0 {
			t.Errorf("query %d: %d, %d", i, len(l), e)
		}
	}
	few := selects(star())
	for range 10 {
		few = in(few, star(), star())
	}
	if l, e := names.Query(tables(), few); e != api.OK || len(l) != 3<<10 || tell(l[3069:]) != "a int, b text?, c bool?" {
		t.Errorf("ten times two stars: %d, %d", len(l), e)
	}
}

// R1: what is nested much too deep, or much too wide, is told, too.
func TestHuge(t *testing.T) {
	deep, deepQuery := name("a"), selects(star())
	for range 1<<16 - 3 {
		deep = node(api.OpNeg, deep)
		deepQuery = api.Query{Op: api.QueryUnion, Parts: []api.Query{deepQuery}}
	}
	for i, q := range []api.Query{selects(api.Item{Expr: deep}), deepQuery} {
		if _, e := names.Query(tables(), q); e != api.ErrDeep {
			t.Errorf("query %d: %d", i, e)
		}
		if e := names.Statement(tables(), 0, api.Statement{Op: api.DoQuery, Query: q}); e != api.ErrDeep {
			t.Errorf("query %d: %d", i, e)
		}
		if !names.Keeps(q) {
			t.Errorf("query %d: not kept", i)
		}
	}
	wide := selects(make([]api.Item, 1<<20)...)
	if _, e := names.Query(tables(), wide); e != api.ErrMany || !names.Keeps(wide) {
		t.Errorf("a wide query: %d", e)
	}
	wide.Select.Items[1<<20-1].Expr.Op = api.OpIn
	if names.Keeps(wide) {
		t.Error("a wide query with an in: kept")
	}
	huge := tables()
	huge[1].Name = strings.Repeat("a", 1<<24)
	if _, e := names.Query(huge, selects(star())); e != api.ErrArg {
		t.Errorf("a huge name: %d", e)
	}
}

// callAll calls all functions.
func callAll(tables []api.Table, s api.Statement) []any {
	l, e := names.Query(tables, s.Query)
	return []any{l, e, names.Keeps(s.Query), names.Statement(tables, 0, s), names.Statement(tables, 1, s)}
}

// R3, R4: arguments stay as they are, behind their ends, too; calls one behind the other answer the same.
func TestArgumentsStay(t *testing.T) {
	for seed := range 1000 {
		m := newMaker(int64(seed))
		m.spoil = pick(m, 0, 0, 50)
		s, l := tidy(m.statement()), tidy(m.tables)
		roomy(reflect.ValueOf(&s).Elem())
		roomy(reflect.ValueOf(&l).Elem())
		before, tablesBefore := tidy(s), tidy(l)
		results := callAll(l, s)
		if !reflect.DeepEqual(tidy(s), before) || !reflect.DeepEqual(tidy(l), tablesBefore) {
			t.Fatalf("%+v, %+v: were %+v, %+v", l, s, tablesBefore, before)
		}
		if slices.Contains(spares(reflect.ValueOf(&s).Elem()), false) || slices.Contains(spares(reflect.ValueOf(&l).Elem()), false) {
			t.Fatalf("%+v, %+v: changed behind an end", l, s)
		}
		if again := callAll(tidy(l), tidy(s)); !reflect.DeepEqual(results, again) {
			t.Fatalf("%v, %v", results, again)
		}
	}
}

// roomy gives all slices a spare element.
func roomy(v reflect.Value) {
	walk(v, func(part any) {
		if v := reflect.ValueOf(part).Elem(); v.Kind() == reflect.Slice {
			more := reflect.MakeSlice(v.Type(), 1, 1)
			v.Set(reflect.AppendSlice(v, more).Slice(0, v.Len()))
		}
	})
}

// spares tells of all slices' spare elements whether they are zero.
func spares(v reflect.Value) []bool {
	var l []bool
	walk(v, func(part any) {
		if v := reflect.ValueOf(part).Elem(); v.Kind() == reflect.Slice {
			for i := v.Len(); i < v.Cap(); i++ {
				l = append(l, v.Slice(0, v.Cap()).Index(i).IsZero())
			}
		}
	})
	return l
}

// R3: columns stay as they are whatever happens to the arguments' memory, and these whatever happens to the columns.
func TestColumnsAreNotShared(t *testing.T) {
	for _, src := range []string{"select * from t", "select *, * from t", "select * from t as x left join u as y on true", "select * from (select * from t) as x", "select * from t union all select * from t"} {
		l, q := tables(), query(t, src)
		got, e := names.Query(l, q)
		want := slices.Clone(got)
		got = got[:cap(got)]
		for i := range got {
			got[i] = api.Column{Name: "x" + strconv.Itoa(i), Kind: 7}
		}
		if e != api.OK || !reflect.DeepEqual(l, tables()) || !reflect.DeepEqual(q, query(t, src)) {
			t.Errorf("%s: %d, %+v, %+v", src, e, l, q)
		}
		if again, _ := names.Query(l, q); !slices.Equal(again, want) {
			t.Errorf("%s: %s, then %s", src, tell(want), tell(again))
		}
	}
	memory := []byte("abcdef")
	given := unsafe.String(&memory[0], len(memory))
	over := []api.Table{{Name: "t", Key: -1, Columns: []api.Column{{Name: given, Kind: api.Int}}}}
	got, e := names.Query(over, selects(star(), api.Item{Expr: name(given)}, api.Item{Expr: name(given), Name: given}))
	copy(memory, "######")
	if e != api.OK || tell(got) != "abcdef int, abcdef int, abcdef int" {
		t.Errorf("%s, %d", tell(got), e)
	}
}
