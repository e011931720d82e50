package parse_test

import (
	"reflect"
	"slices"
	"strings"
	"testing"
	"unsafe"

	"touchmark/api"
	"touchmark/parse"
)

// place is where in memory a string, or a slice with its spare capacity, lies.
type place struct{ from, to uintptr }

func stringPlace(s string) place {
	from := uintptr(unsafe.Pointer(unsafe.StringData(s)))
	return place{from, from + uintptr(len(s))}
}

// places are those of all strings and slices in a tree.
func places(v reflect.Value) []place {
	var l []place
	switch v.Kind() {
	case reflect.String:
		if v.Len() > 0 {
			l = append(l, stringPlace(v.String()))
		}
	case reflect.Slice:
		if v.Cap() > 0 {
			l = append(l, place{v.Pointer(), v.Pointer() + uintptr(v.Cap())*v.Type().Elem().Size()})
		}
		for i := range v.Len() {
			l = append(l, places(v.Index(i))...)
		}
	case reflect.Struct:
		for i := range v.NumField() {
			l = append(l, places(v.Field(i))...)
		}
	}
	return l
}

// sources are some that use each part of the grammar.
func sources() []string {
	return []string{
		"commit", "select a from t", "(select a from t)", "create table abc (abc int primary key, b text not null, c bool)",
		"create view v as select distinct a as x, *, t.b from t as u left join (select a from v) as w on x.a = u.a join t on true where a or b and c group by a, b, c having d = 'text' order by a desc, b, c limit 3",
		"insert into t values (1, 'it''s', null, true), (-2, -(3), - -4, a + b + c), ('x', 'x', 'x')",
		"delete from t where not exists (select a from u) and a in (select b from v) or c not in (select d from w union all select e from x except all (select f from y))",
		"update t set a = count(*) + sum(a) - min(b) * max(c) / d % e, b = a is null, c = a is not null where a <> b",
		"select " + strings.Repeat("a + b * c, ", 100) + "not a from t",
	}
}

// P10.3: no two slices or strings of results lie in the same memory, nor does one in that of the argument.
func TestNoSharedMemory(t *testing.T) {
	for _, src := range sources() {
		l := []place{stringPlace(src)}
		var trees []any
		for range 2 {
			s, e, _ := parse.Statement(src)
			q, _, _ := parse.Query(src)
			if e != api.OK {
				t.Fatal(src, e)
			}
			trees = append(trees, s, q)
			l = append(append(l, places(reflect.ValueOf(s))...), places(reflect.ValueOf(q))...)
		}
		slices.SortFunc(l, func(a, b place) int { return int(a.from) - int(b.from) })
		for i := 1; i < len(l); i++ {
			if l[i-1].to > l[i].from {
				t.Errorf("%s: memory is shared", src)
			}
		}
		if !reflect.DeepEqual(trees[:2], trees[2:]) {
			t.Errorf("%s: two results differ", src)
		}
	}
}

// P10.3: a tree stays as it is, whatever happens to the argument's memory.
func TestArgumentIsNotKept(t *testing.T) {
	for _, src := range sources() {
		memory := []byte(src + "!")
		given := unsafe.String(&memory[0], len(src))
		s, _, _ := parse.Statement(given)
		q, _, _ := parse.Query(given)
		if string(memory) != src+"!" {
			t.Errorf("%s: the argument is changed", src)
		}
		for i := range memory {
			memory[i] = '#'
		}
		want, _, _ := parse.Statement(src)
		wantQ, _, _ := parse.Query(src)
		if !reflect.DeepEqual(s, want) || !reflect.DeepEqual(q, wantQ) {
			t.Errorf("%s: %+v, %+v", src, s, q)
		}
	}
}
