package names_test

import (
	"reflect"
	"slices"
	"strconv"
	"testing"

	"touchmark/api"
	"touchmark/names"
	"touchmark/print"
)

// wantEnough asks for enough cases of each error, without which a test would tell little.
func wantEnough(t *testing.T, n map[api.Errno]int, each int, l ...api.Errno) {
	t.Helper()
	for _, e := range l {
		if n[e] < each {
			t.Errorf("error %d: %d cases alone", e, n[e])
		}
	}
	t.Logf("%v", n)
}

func sameColumns(a, b []api.Column) bool { return slices.Equal(a, b) }

// P12.1, P12.2: queries put together by chance, and with parts put elsewhere, against the model.
func TestQueriesByChance(t *testing.T) {
	n := map[api.Errno]int{}
	kept := 0
	for seed := range 20000 {
		m := newMaker(int64(seed))
		m.spoil = pick(m, 0, 200, 60, 20)
		q := m.whole()
		for m.spoil > 0 && m.maybe() {
			q = graft(m, q)
		}
		got, e := names.Query(m.tables, q)
		want, f := modelQuery(m.tables, q)
		n[e]++
		if e != f || !sameColumns(got, want) {
			text, _ := print.Query(q)
			t.Fatalf("seed %d: %s over %+v: %s, %d, not %s, %d", seed, text, m.tables, tell(got), e, tell(want), f)
		}
		if names.Keeps(q) != modelKeeps(q) {
			t.Fatalf("seed %d: Keeps: %+v", seed, q)
		}
		if names.Keeps(q) {
			kept++
		}
	}
	wantEnough(t, n, 100, api.OK, api.ErrName, api.ErrTwice, api.ErrKind, api.ErrCount, api.ErrPlace, api.ErrGroup, api.ErrLimit)
	if kept < 2000 {
		t.Errorf("%d alone are kept", kept)
	}
}

// P12.3: statements put together by chance, and with parts put elsewhere, against the model.
func TestStatementsByChance(t *testing.T) {
	n := map[api.Errno]int{}
	done := map[int]int{}
	for seed := range 20000 {
		m := newMaker(int64(seed))
		m.spoil = pick(m, 0, 200, 60, 20)
		s := m.statement()
		for m.spoil > 0 && m.maybe() {
			s = graft(m, s)
		}
		views := max(0, m.Intn(len(m.tables)+6)-5)
		e, f := names.Statement(m.tables, views, s), modelStatement(m.tables, views, s)
		n[e]++
		if e == api.OK {
			done[s.Op]++
		}
		if e != f {
			text, _ := print.Statement(s)
			t.Fatalf("seed %d: %s over %+v, %d views: %d, not %d", seed, text, m.tables, views, e, f)
		}
	}
	wantEnough(t, n, 50, api.OK, api.ErrMany, api.ErrName, api.ErrTwice, api.ErrKind, api.ErrCount, api.ErrPlace, api.ErrGroup, api.ErrLimit, api.ErrView)
	for op := api.DoQuery; op <= api.DoAbort; op++ {
		if done[op] < 200 {
			t.Errorf("statements %d: %d alone without an error", op, done[op])
		}
	}
}

// P12.1, P12.3: tables spoilt by chance, against the model.
func TestTablesByChance(t *testing.T) {
	n := map[api.Errno]int{}
	q := api.Query{Op: api.QuerySelect, Select: api.Select{Items: []api.Item{{Star: true}}, From: []api.Source{{Table: "t0"}}}}
	for seed := range 5000 {
		m := newMaker(int64(seed))
		for m.maybe() {
			x := &m.tables[m.Intn(len(m.tables))]
			switch c := m.Intn(len(x.Columns)); m.Intn(6) {
			case 0:
				x.Name = pick(m, "t0", "t1", "x", "", "in", "T")
			case 1:
				x.Columns[c].Name = pick(m, m.columnName(), "", "in", "a b")
			case 2:
				x.Columns[c].Kind = m.Intn(6) - 1
			case 3:
				x.Columns[c].Nullable = !x.Columns[c].Nullable
			case 4:
				x.Key = m.Intn(12) - 3
			case 5:
				x.Columns = append(x.Columns, m.table("x").Columns...)
			}
		}
		got, e := names.Query(m.tables, q)
		want, f := modelQuery(m.tables, q)
		n[e]++
		if e != f || !sameColumns(got, want) {
			t.Fatalf("seed %d: %+v: %s, %d, not %s, %d", seed, m.tables, tell(got), e, tell(want), f)
		}
	}
	wantEnough(t, n, 300, api.OK, api.ErrArg)
}

// mentions returns the names of the tables that a query has as sources.
func mentions(q api.Query) map[string]bool {
	l := map[string]bool{}
	walk(reflect.ValueOf(&q).Elem(), func(part any) {
		if s, ok := part.(*api.Source); ok {
			l[s.Table] = true
		}
	})
	return l
}

// P12.4: the columns of a query do not depend on tables that it does not mention, nor on the order of the tables.
func TestOtherTables(t *testing.T) {
	answered := 0
	for seed := range 4000 {
		m := newMaker(int64(seed))
		m.spoil = pick(m, 0, 100)
		q := m.whole()
		want, e := names.Query(m.tables, q)
		in := mentions(q)
		var few []api.Table
		for _, x := range m.tables {
			if in[x.Name] {
				few = append(few, x)
			}
		}
		others := tidy(m.tables)
		for i := range others {
			if !in[others[i].Name] {
				others[i] = m.table(others[i].Name)
			}
		}
		more := slices.Clone(m.tables)
		for i := range 10 {
			more = slices.Insert(more, m.Intn(len(more)+1), m.table("other"+strconv.Itoa(i)))
		}
		m.Shuffle(len(few), func(i, j int) { few[i], few[j] = few[j], few[i] })
		for _, l := range [][]api.Table{few, others, more} {
			got, f := names.Query(l, q)
			if e == api.OK && (f != api.OK || !sameColumns(got, want)) || f != e {
				t.Fatalf("seed %d: %+v over %+v: %s, %d, not %s, %d", seed, q, l, tell(got), f, tell(want), e)
			}
		}
		if e == api.OK {
			answered++
		}
	}
	if answered < 2000 {
		t.Errorf("%d queries alone have columns", answered)
	}
}

// P12.4: the parts of a union can be exchanged, except for the names.
func TestExchange(t *testing.T) {
	answered := 0
	for seed := range 6000 {
		m := newMaker(int64(seed))
		m.left = 15
		a, columns := m.query(nil)
		var kinds []int
		for _, c := range columns {
			kinds = append(kinds, c.Kind)
		}
		m.left = 15
		b, _ := m.query(kinds)
		one, e := names.Query(m.tables, api.Query{Op: api.QueryUnion, Parts: []api.Query{a, b}})
		two, f := names.Query(m.tables, api.Query{Op: api.QueryUnion, Parts: []api.Query{b, a}})
		if (e == api.OK) != (f == api.OK) {
			t.Fatalf("seed %d: %d, %d", seed, e, f)
		}
		if e != api.OK {
			continue
		}
		answered++
		left, _ := names.Query(m.tables, a)
		right, _ := names.Query(m.tables, b)
		for i := range one {
			if one[i].Name != left[i].Name || two[i].Name != right[i].Name || one[i].Kind != two[i].Kind || one[i].Nullable != two[i].Nullable {
				t.Fatalf("seed %d: %s; %s", seed, tell(one), tell(two))
			}
		}
	}
	if answered < 2000 {
		t.Errorf("%d unions alone have columns", answered)
	}
}
