package plan_test

import (
	"reflect"
	"slices"
	"strconv"
	"strings"
	"testing"
	"unsafe"

	"touchmark/api"
	"touchmark/parse"
	"touchmark/plan"
)

// stars is the query select *, *, .. from (q) as s.
func stars(q api.Query, n int) api.Query {
	return api.Query{Op: api.QuerySelect, Select: api.Select{Items: slices.Repeat([]api.Item{{Star: true}}, n), From: []api.Source{{Query: []api.Query{q}, As: "s"}}}}
}

// R1: stars of stars.
func TestStarsOfStars(t *testing.T) {
	q := query(t, "select * from t")
	for range 12 {
		q = stars(q, 2)
	}
	p, e := plan.Lower(tables(), q)
	if e != api.OK || len(p.Terms) != 3<<12 || p.Terms[3<<12-1].Col != 3<<11-1 || plan.Nodes(p) != 14 {
		t.Errorf("12 times two stars: %d, %d terms", e, len(p.Terms))
	}
	if l, e := plan.Check(tables(), p); e != api.OK || len(l) != 3<<12 {
		t.Errorf("12 times two stars: %d, %d columns", e, len(l))
	}
}

// R1: what is nested much too deep, or much too wide, is told, too.
func TestHuge(t *testing.T) {
	deep, deepTerm := wrapped(scan("t"), 1<<16-2), project(scan("t"), negated(col(0), 1<<16-3))
	for i, p := range []api.Plan{deep, deepTerm} {
		if _, e := plan.Check(tables(), p); e != api.ErrDeep {
			t.Errorf("deep plan %d: %d", i, e)
		}
		if n := plan.Nodes(p); i == 0 && n != 1<<16-1 || i == 1 && n != 2 {
			t.Errorf("deep plan %d: %d nodes", i, n)
		}
		if !plan.Same(p, p) || plan.Same(p, wrapped(p, 1)) {
			t.Errorf("deep plan %d: not the same", i)
		}
	}
	wide := api.Plan{Op: api.PlanUnion, Args: make([]api.Plan, 1<<20), Terms: make([]api.Term, 1<<20), Aggs: make([]api.Agg, 1<<20), Keys: make([]api.Key, 1<<20)}
	for i := range wide.Args {
		wide.Args[i] = scan("t")
	}
	if _, e := plan.Check(tables(), wide); e != api.ErrForm {
		t.Errorf("a wide plan: %d", e)
	}
	if n := plan.Nodes(wide); n != 1<<20+1 || !plan.Same(wide, wide) {
		t.Errorf("a wide plan: %d nodes", n)
	}
	many := project(scan("t"), slices.Repeat([]api.Term{col(0), op(api.OpIsNull, col(1))}, 1<<18)...)
	if l, e := plan.Check(tables(), wrapped(many, 40)); e != api.OK || len(l) != 1<<19 || l[1<<19-1].Kind != api.Bool {
		t.Errorf("many terms: %d, %d", len(l), e)
	}
	p := scan("w")
	for range 47 {
		p = two(api.PlanLeft, p, scan("w"), null())
	}
	if l, e := plan.Check(tables(), p); e != api.OK || len(l) != 144 || columnsOf(l[:6]) != "a text, e bool, f int, a text?, e bool?, f int?" {
		t.Errorf("47 joins: %s, %d", columnsOf(l), e)
	}
	x := api.Expr{Op: api.OpName, Name: "nosuch"}
	for range 1<<16 - 3 {
		x = api.Expr{Op: api.OpNeg, Args: []api.Expr{x}}
	}
	if _, e := plan.Lower(tables(), api.Query{Op: api.QuerySelect, Select: api.Select{Where: []api.Expr{x}}}); e != api.ErrDeep {
		t.Errorf("a deep query: %d", e)
	}
}

// R1: queries as wide as they can be.
func TestLargeQueries(t *testing.T) {
	b := strings.Builder{}
	b.WriteString("select 0")
	for i := range 240 {
		b.WriteString(", " + strconv.Itoa(i%10))
	}
	b.WriteString(" from t order by x")
	src := strings.Replace(b.String(), "0,", "0 as x,", 1)
	p, e := plan.Lower(tables(), query(t, src))
	if e != api.OK || len(p.Args[0].Terms) != 241 || tell(p)[:26] != "sort <0> (project [#0, #0," {
		t.Errorf("241 items: %d, %s", e, tell(p))
	}
	src = "select sum(a)" + strings.Repeat(" + sum(a)", 21) + strings.Repeat(", count(*)", 200) + " from t"
	p, e = plan.Lower(tables(), query(t, src))
	if e != api.OK || len(p.Args[0].Aggs) != 222 || p.Terms[200].Col != 221 {
		t.Errorf("222 aggregates: %d", e)
	}
}

// callAll calls all functions.
func callAll(tables []api.Table, q api.Query, p api.Plan) []any {
	lowered, e := plan.Lower(tables, q)
	l, f := plan.Check(tables, p)
	return []any{tidy(lowered), e, tidy(l), f, plan.Nodes(p), plan.Same(p, lowered), plan.Same(p, p)}
}

// R3, R4: arguments stay as they are, behind their ends, too; calls one behind the other answer the same.
func TestArgumentsStay(t *testing.T) {
	for seed := range 1000 {
		m := newMaker(int64(seed))
		m.spoil = pick(m, 0, 0, 50)
		q, p, l := tidy(m.whole()), tidy(m.wholePlan()), tidy(m.tables)
		if m.maybe() {
			p, _ = plan.Lower(l, q)
			p = tidy(p)
		}
		parts := []reflect.Value{reflect.ValueOf(&q).Elem(), reflect.ValueOf(&p).Elem(), reflect.ValueOf(&l).Elem()}
		for _, v := range parts {
			roomy(v)
		}
		before, planBefore, tablesBefore := tidy(q), tidy(p), tidy(l)
		results := callAll(l, q, p)
		if !reflect.DeepEqual(tidy(q), before) || !reflect.DeepEqual(tidy(p), planBefore) || !reflect.DeepEqual(tidy(l), tablesBefore) {
			t.Fatalf("%+v, %+v, %+v: were %+v, %+v, %+v", l, q, p, tablesBefore, before, planBefore)
		}
		for _, v := range parts {
			if slices.Contains(spares(v), false) {
				t.Fatalf("%+v, %+v, %+v: changed behind an end", l, q, p)
			}
		}
		if again := callAll(tidy(l), tidy(q), tidy(p)); !reflect.DeepEqual(results, again) {
			t.Fatalf("%v, %v", results, again)
		}
	}
}

// roomy gives all slices a spare element.
func roomy(v reflect.Value) {
	walk(v, func(part any) {
		if v := reflect.ValueOf(part).Elem(); v.Kind() == reflect.Slice {
			more := reflect.MakeSlice(v.Type(), 1, 1)
			v.Set(reflect.AppendSlice(v, more).Slice(0, v.Len()))
		}
	})
}

// spares tells of all slices' spare elements whether they are zero.
func spares(v reflect.Value) []bool {
	var l []bool
	walk(v, func(part any) {
		if v := reflect.ValueOf(part).Elem(); v.Kind() == reflect.Slice {
			for i := v.Len(); i < v.Cap(); i++ {
				l = append(l, v.Slice(0, v.Cap()).Index(i).IsZero())
			}
		}
	})
	return l
}

// memory is where a list or a text begins, and where it ends with its room.
type memory struct{ from, to uintptr }

// memories returns those of all lists, and if asked of all texts, in a tree.
func memories(v reflect.Value, texts bool) []memory {
	var l []memory
	walk(v, func(part any) {
		v := reflect.ValueOf(part).Elem()
		switch {
		case v.Kind() == reflect.Slice && v.Cap() > 0:
			from := v.Pointer()
			l = append(l, memory{from, from + uintptr(v.Cap())*v.Type().Elem().Size()})
		case v.Kind() == reflect.String && texts && v.Len() > 0:
			from := uintptr(unsafe.Pointer(unsafe.StringData(v.String())))
			l = append(l, memory{from, from + uintptr(v.Len())})
		}
	})
	return l
}

func overlap(a, b memory) bool { return a.from < b.to && b.from < a.to }

// R3: no two lists of a plan share memory, and none, nor a text, shares it with the query or the tables.
func TestPlansShareNothing(t *testing.T) {
	lists := 0
	for seed := range 3000 {
		m := newMaker(int64(seed))
		q := m.whole()
		p, e := plan.Lower(m.tables, q)
		if e != api.OK {
			continue
		}
		own := memories(reflect.ValueOf(&p).Elem(), false)
		lists += len(own)
		for i, a := range own {
			if slices.ContainsFunc(own[:i], func(b memory) bool { return overlap(a, b) }) {
				t.Fatalf("seed %d: %s: two lists share memory", seed, tell(p))
			}
		}
		given := append(memories(reflect.ValueOf(&q).Elem(), false), memories(reflect.ValueOf(&m.tables).Elem(), false)...)
		for _, a := range own {
			if slices.ContainsFunc(given, func(b memory) bool { return overlap(a, b) }) {
				t.Fatalf("seed %d: %s: a list is the query's or the tables'", seed, tell(p))
			}
		}
	}
	if lists < 10000 {
		t.Errorf("%d lists alone", lists)
	}
}

// R3: results stay as they are whatever happens to the arguments' memory.
func TestTextsAreNotShared(t *testing.T) {
	source := []byte("select abcdef from tables where ghijkl = 'mnopqr' order by abcdef")
	q, e, _ := parse.Query(unsafe.String(&source[0], len(source)))
	if e != api.OK {
		t.Fatal(e)
	}
	given := []byte("tablesabcdefghijkl")
	piece := func(from, to int) string { return unsafe.String(&given[from], to-from) }
	l := []api.Table{{Name: piece(0, 6), Key: -1, Columns: []api.Column{{Name: piece(6, 12), Kind: api.Int}, {Name: piece(12, 18), Kind: api.Text}}}}
	q.Select.From[0].Table, q.Select.Where[0].Args[1].Value.S = piece(0, 6), piece(12, 18)
	p, e := plan.Lower(l, q)
	columns, f := plan.Check(l, p)
	for i := range given {
		given[i] = '#'
	}
	if e != api.OK || tell(p) != "sort <0> (project [0] (select [(eq 1 'ghijkl')] (scan tables)))" || f != api.OK || columnsOf(columns) != "- int" {
		t.Errorf("%s, %d; %s, %d", tell(p), e, columnsOf(columns), f)
	}
	copy(given, "tablesabcdefghijkl")
	columns, f = plan.Check(l, one(api.PlanDistinct, scan("tables")))
	for i := range given {
		given[i] = '#'
	}
	if f != api.OK || columnsOf(columns) != "abcdef int, ghijkl text" {
		t.Errorf("%s, %d", columnsOf(columns), f)
	}
}

// R3: columns are new memory: what happens to them does not happen to the tables.
func TestColumnsAreNotShared(t *testing.T) {
	for _, p := range append(samples(), two(api.PlanUnion, scan("u"), scan("u")), two(api.PlanLeft, scan("w"), scan("w"), null())) {
		l := tables()
		got, e := plan.Check(l, p)
		want := slices.Clone(got)
		got = got[:cap(got)]
		for i := range got {
			got[i] = api.Column{Name: "x" + strconv.Itoa(i), Kind: 7}
		}
		if e != api.OK || !reflect.DeepEqual(l, tables()) {
			t.Errorf("%s: %d, %+v", tell(p), e, l)
		}
		if again, _ := plan.Check(l, p); !slices.Equal(again, want) {
			t.Errorf("%s: %s, then %s", tell(p), columnsOf(want), columnsOf(again))
		}
	}
}
