package print_test

import (
	"reflect"
	"slices"
	"testing"
	"unsafe"

	"touchmark/api"
	"touchmark/parse"
	"touchmark/print"
)

// sources are some that use each part of the grammar.
func sources() []string {
	return []string{
		"select a from t", "select * from t limit 0",
		"select distinct a as x, *, t.b from t as u left join (select a from v) as w on x.a = u.a join t on true where a or b and c group by a, b, c having d = 'text' order by a desc, b, c limit 3",
		"select 1, 'it''s', null, true, -2, -(3), - -4, count(*) + sum(a) - min(b) * max(c) / d % e, a is null, a is not null from t",
		"select not exists (select a from u) and a in (select b from v) or c not in (select d from w union all select e from x except all (select f from y)), exists (select g from z where not h) from t",
		"select a from t union all select b from u except all select c from v order by a",
	}
}

func queries(t *testing.T) []api.Query {
	t.Helper()
	var l []api.Query
	for _, src := range sources() {
		q, e, _ := parse.Query(src)
		if e != api.OK {
			t.Fatal(src, e)
		}
		l = append(l, q)
	}
	return l
}

// P11.3: a query is the same as another one if all of its parts are.
func TestSame(t *testing.T) {
	for i, a := range queries(t) {
		for j, b := range queries(t) {
			if print.Same(a, b) != (i == j) {
				t.Errorf("%s, %s: %v", sources()[i], sources()[j], i != j)
			}
		}
	}
	if !print.Same(api.Query{}, api.Query{}) || print.Same(api.Query{}, all("t")) {
		t.Error("nothing")
	}
}

// P11.3: with any field changed, at any depth, a query is another one.
func TestSameFields(t *testing.T) {
	fields := 0
	for _, q := range queries(t) {
		var places int
		walk(reflect.ValueOf(&q).Elem(), func(part any) { places++ })
		for i := range places {
			for _, change := range []func(v reflect.Value) bool{changeField, shorten, lengthen, lengthenAhead, turnRound} {
				other := tidy(q)
				place, changed := 0, false
				walk(reflect.ValueOf(&other).Elem(), func(part any) {
					if place++; place == i+1 {
						changed = change(reflect.ValueOf(part).Elem())
					}
				})
				if !changed {
					continue
				}
				fields++
				if print.Same(q, other) || print.Same(other, q) {
					t.Errorf("%+v, %+v: are told to be the same", q, other)
				}
				if !print.Same(other, tidy(other)) {
					t.Errorf("%+v: is told not to be the same", other)
				}
			}
		}
	}
	if fields < 1000 {
		t.Errorf("%d changes", fields)
	}
}

// changeField changes a field that is no list.
func changeField(v reflect.Value) bool {
	switch v.Kind() {
	case reflect.Bool:
		v.SetBool(!v.Bool())
	case reflect.Int, reflect.Int64:
		v.SetInt(v.Int() + 1)
	case reflect.String:
		v.SetString(v.String() + "x")
	default:
		return false
	}
	return true
}

func shorten(v reflect.Value) bool {
	if v.Kind() != reflect.Slice || v.Len() == 0 {
		return false
	}
	v.Set(v.Slice(0, v.Len()-1))
	return true
}

func lengthen(v reflect.Value) bool {
	if v.Kind() != reflect.Slice {
		return false
	}
	v.Set(reflect.Append(v, reflect.Zero(v.Type().Elem())))
	return true
}

func lengthenAhead(v reflect.Value) bool {
	if v.Kind() != reflect.Slice {
		return false
	}
	l := reflect.MakeSlice(v.Type(), 1, 1)
	v.Set(reflect.AppendSlice(l, v))
	return true
}

// turnRound turns a list round, if that makes a difference.
func turnRound(v reflect.Value) bool {
	if v.Kind() != reflect.Slice || v.Len() < 2 || reflect.DeepEqual(v.Index(0).Interface(), v.Index(v.Len()-1).Interface()) {
		return false
	}
	l := reflect.MakeSlice(v.Type(), 0, v.Len())
	for i := range v.Len() {
		l = reflect.Append(l, v.Index(v.Len()-1-i))
	}
	v.Set(l)
	return true
}

// P11.3: whether a slice is nil or empty makes no difference, nor what is behind its end.
func TestSameEmptySlices(t *testing.T) {
	for _, q := range append(queries(t), api.Query{}) {
		other := tidy(q)
		empty := 0
		walk(reflect.ValueOf(&other).Elem(), func(part any) {
			v := reflect.ValueOf(part).Elem()
			if v.Kind() != reflect.Slice {
				return
			}
			l := reflect.MakeSlice(v.Type(), v.Len(), v.Len()+2)
			reflect.Copy(l, v)
			if v.Len() == 0 {
				empty++
			}
			v.Set(l)
		})
		if empty == 0 || !print.Same(q, other) || !print.Same(other, q) || !print.Same(other, other) {
			t.Errorf("%+v: is told not to be the same, with %d empty slices", q, empty)
		}
	}
}

// P11.3: fields that a query of this Op does not have count, too, as do values that are not valid.
func TestSameOfWrongQueries(t *testing.T) {
	for _, change := range []func(q *api.Query){
		func(q *api.Query) { q.Op = 9 },
		func(q *api.Query) { q.Parts = []api.Query{all("t")} },
		func(q *api.Query) { q.Limit = -1 },
		func(q *api.Query) { q.Select.Items[0].Expr.Query = []api.Query{{}} },
		func(q *api.Query) { q.Select.Items[0].Expr.Value = api.Value{Kind: 9} },
		func(q *api.Query) { q.Select.Items[0].Expr.Value = api.Value{N: 1} },
		func(q *api.Query) { q.Select.Items[0].Expr.Value = api.Value{S: "x"} },
		func(q *api.Query) { q.Select.From[0].On = []api.Expr{{}} },
		func(q *api.Query) { q.Select.From[0].Query = []api.Query{{}, {}} },
		func(q *api.Query) { q.Select.Where = []api.Expr{{}, {}} },
	} {
		q := item(name("a"))
		change(&q)
		if print.Same(q, item(name("a"))) || print.Same(item(name("a")), q) || !print.Same(q, tidy(q)) {
			t.Errorf("%+v", q)
		}
	}
}

// P11.3: queries by chance, against the library's comparison.
func TestSameByChance(t *testing.T) {
	m := newMaker(115)
	same := 0
	for range 4000 {
		s := api.Statement{Op: api.DoQuery, Query: m.query()}
		m.left = 20
		other := tidy(s)
		m.spoil(&other)
		want := isSame(s.Query, other.Query)
		if print.Same(s.Query, other.Query) != want || print.Same(other.Query, s.Query) != want {
			t.Fatalf("%+v, %+v: %v", s.Query, other.Query, !want)
		}
		if want {
			same++
		}
	}
	if same < 400 || same > 3600 {
		t.Errorf("%d are the same", same)
	}
}

// callAll calls all functions with a statement.
func callAll(s api.Statement) []any {
	var l []any
	text, e := print.Statement(s)
	l = append(l, text, e, print.Check(s), print.CheckQuery(s.Query), print.Same(s.Query, s.Query))
	text, e = print.Query(s.Query)
	return append(l, text, e)
}

// R3, R4: arguments stay as they are, behind their ends, too; calls one behind the other answer the same.
func TestArgumentsStay(t *testing.T) {
	m := newMaker(116)
	for range 300 {
		s := m.statement()
		walk(reflect.ValueOf(&s).Elem(), func(part any) {
			if v := reflect.ValueOf(part).Elem(); v.Kind() == reflect.Slice {
				more := reflect.MakeSlice(v.Type(), 1, 1)
				v.Set(reflect.AppendSlice(v, more).Slice(0, v.Len()))
			}
		})
		before, spare := tidy(s), spares(&s)
		results := callAll(s)
		if !isSame(s, before) || slices.Contains(spares(&s), false) || len(spares(&s)) != len(spare) {
			t.Fatalf("%+v: was %+v", s, before)
		}
		if again := callAll(tidy(s)); !reflect.DeepEqual(results, again) {
			t.Fatalf("%v, %v", results, again)
		}
	}
}

// spares tells of all slices' spare elements whether they are zero.
func spares(s *api.Statement) []bool {
	var l []bool
	walk(reflect.ValueOf(s).Elem(), func(part any) {
		if v := reflect.ValueOf(part).Elem(); v.Kind() == reflect.Slice {
			for i := v.Len(); i < v.Cap(); i++ {
				l = append(l, v.Slice(0, v.Cap()).Index(i).IsZero())
			}
		}
	})
	return l
}

// R3: a text stays as it is, whatever happens to the argument's memory.
func TestTextIsNotShared(t *testing.T) {
	memory := []byte("abcdef")
	given := unsafe.String(&memory[0], len(memory))
	for want, s := range map[string]api.Statement{
		"delete from abcdef":          {Op: api.DoDelete, Name: given},
		"select abcdef from t":        {Op: api.DoQuery, Query: item(name(given))},
		"select 'abcdef' from abcdef": {Op: api.DoQuery, Query: selects(api.Select{Items: []api.Item{{Expr: text(given)}}, From: []api.Source{{Table: given}}})},
	} {
		copy(memory, "abcdef")
		got, e := print.Statement(s)
		if string(memory) != "abcdef" || e != api.OK {
			t.Errorf("%s: %s, %d", want, memory, e)
		}
		copy(memory, "######")
		if got != want {
			t.Errorf("%s: is %s now", want, got)
		}
	}
}
