package print_test

import (
	"math/rand"
	"reflect"
	"strings"
	"testing"

	"touchmark/api"
	"touchmark/parse"
	"touchmark/print"
	"touchmark/scan"
)

// wantModel asks for what the model says of a statement, which can be a wrong one; and, of a query, by both ways to ask. It returns the error.
func wantModel(t *testing.T, s api.Statement) api.Errno {
	t.Helper()
	got := print.Check(s)
	if want, known := modelCheck(s); known && got != want && (want != api.OK || got != api.ErrBytes) {
		t.Fatalf("%+v: %d, want %d", s, got, want)
	}
	text, e := print.Statement(s)
	if e != got || (e == api.OK) != (text != "") {
		t.Fatalf("%+v: %q, %d, want %d", s, text, e, got)
	}
	if e == api.OK {
		if back, e, _ := parse.Statement(text); e != api.OK || !isSame(back, s) {
			t.Fatalf("%s: is %+v, %d, not %+v", text, back, e, s)
		}
	}
	if isSame(s, api.Statement{Op: api.DoQuery, Query: s.Query}) {
		if f := print.CheckQuery(s.Query); f != e {
			t.Fatalf("%+v: CheckQuery: %d, want %d", s.Query, f, e)
		}
		if q, f := print.Query(s.Query); q != text || f != e {
			t.Fatalf("%+v: Query: %q, %d, want %q, %d", s.Query, q, f, text, e)
		}
	}
	return got
}

// P11.1, P11.2, P11.4: well-formed statements have the text that the model has for them.
func TestTextsByChance(t *testing.T) {
	m := newMaker(111)
	var ops [api.DoAbort + 1]int
	long := 0
	for range 2500 {
		s := m.statement()
		depth, nodes := measure(reflect.ValueOf(s))
		if depth > api.MaxDepth || nodes > 150 {
			continue
		}
		src := loud(s)
		if e := wantModel(t, s); e != api.OK {
			t.Fatalf("%s: %d", src, e)
		}
		text, _ := print.Statement(s)
		if want := modelText(t, s); text != want {
			t.Fatalf("%s, want %s", text, want)
		}
		if len(text) > 500 {
			long++
		}
		ops[s.Op]++
	}
	for op := api.DoQuery; op <= api.DoAbort; op++ {
		if ops[op] < 100 {
			t.Errorf("%d statements with the Op %d", ops[op], op)
		}
	}
	if long < 30 {
		t.Errorf("%d long statements", long)
	}
}

// P11.1, P11.4: statements in which some fields are wrong, or too deep, or too many.
func TestWrongByChance(t *testing.T) {
	m := newMaker(112)
	times := map[api.Errno]int{}
	for range 5000 {
		s := m.statement()
		if _, nodes := measure(reflect.ValueOf(s)); nodes > 150 {
			continue
		}
		for range 4 {
			wrong := tidy(s)
			for range 1 + m.Intn(2) {
				m.spoil(&wrong)
			}
			times[wantModel(t, wrong)]++
		}
	}
	for _, e := range []api.Errno{api.OK, api.ErrDeep, api.ErrMany, api.ErrForm, api.ErrName, api.ErrKind} {
		if times[e] < 100 {
			t.Errorf("error %d: %d times", e, times[e])
		}
	}
}

// spoil changes a part of a statement.
func (m *maker) spoil(s *api.Statement) {
	var l []reflect.Value
	walk(reflect.ValueOf(s).Elem(), func(part any) { l = append(l, reflect.ValueOf(part).Elem()) })
	switch v := pick(m, l...); v.Kind() {
	case reflect.Bool:
		v.SetBool(!v.Bool())
	case reflect.Int, reflect.Int64:
		v.SetInt(pick(m, int64(m.Intn(32)), v.Int()+1, v.Int()-1, -v.Int(), 1<<63-1, -1<<63))
	case reflect.String:
		v.SetString(pick(m, "", "a", "select", "not", "1", "A", "a b", "a.b", "a1", "aaaaaaaaaaaaaaaaa", strings.Repeat("a", 64), strings.Repeat("a", 65), "'", "é"))
	case reflect.Slice:
		m.spoilSlice(v, l)
	case reflect.Struct:
		m.spoilStruct(v, l)
	}
}

// spoilSlice changes the number of a slice's elements.
func (m *maker) spoilSlice(v reflect.Value, l []reflect.Value) {
	n := v.Len()
	switch m.Intn(5) {
	case 0:
		v.Set(reflect.MakeSlice(v.Type(), 0, 3))
	case 1:
		v.Set(v.Slice(0, n-min(n, 1)))
	case 2:
		v.Set(reflect.Append(v, reflect.Zero(v.Type().Elem())))
	case 3:
		for _, x := range l {
			if x.Type() == v.Type().Elem() && m.maybe() {
				v.Set(reflect.Append(v, tidied(x)))
				return
			}
		}
	case 4:
		if n > 0 {
			last := v.Index(n - 1)
			for range pick(m, 1, 100, 520) {
				v.Set(reflect.Append(v, tidied(last)))
			}
		}
	}
}

// spoilStruct makes a struct zero, or puts another one of its type in its place, or an expression within others.
func (m *maker) spoilStruct(v reflect.Value, l []reflect.Value) {
	if x, ok := v.Interface().(api.Expr); ok && m.maybe() {
		for range pick(m, 1, 10, 20, 30) {
			x = api.Expr{Op: pick(m, api.OpNot, api.OpNeg), Args: []api.Expr{x}}
		}
		v.Set(reflect.ValueOf(x))
		return
	}
	if m.maybe() {
		v.SetZero()
		return
	}
	for _, x := range l {
		if x.Type() == v.Type() && m.maybe() {
			v.Set(tidied(x))
			return
		}
	}
}

// P11.4: sources of any kind, from whole statements with tokens that are wrong: whichever can be parsed is well-formed.
func TestParsedByChance(t *testing.T) {
	m := newMaker(113)
	parsed := 0
	for range 3000 {
		s := m.statement()
		tokens, e, _ := scan.All(loud(s))
		if e != api.OK || len(tokens) > 400 {
			continue
		}
		var l []string
		for _, x := range tokens {
			l = append(l, x.Text)
		}
		for range 10 {
			wrong := m.wrongTokens(l)
			back, e, _ := parse.Statement(strings.Join(wrong, " "))
			if e != api.OK {
				continue
			}
			parsed++
			depth, nodes := measure(reflect.ValueOf(back))
			if e := wantModel(t, back); depth <= 24 && nodes <= 512 && e != api.OK && e != api.ErrBytes {
				t.Fatalf("%s: %d", strings.Join(wrong, " "), e)
			}
		}
	}
	if parsed < 3000 {
		t.Errorf("%d statements", parsed)
	}
}

// wrongTokens leaves some tokens out, or puts others in their place or between.
func (m *maker) wrongTokens(l []string) []string {
	l = append([]string{}, l...)
	for range 1 + m.Intn(2) {
		i := m.Intn(len(l))
		x := pick(m, "a", "5", "-", "not", "exists", "(", ")", ",", "null", "=", "in", l[m.Intn(len(l))])
		switch m.Intn(4) {
		case 0:
			l[i] = x
		case 1:
			l = append(l[:i], append([]string{x}, l[i:]...)...)
		case 2:
			if less := without(l, i); len(less) > 0 {
				l = less
			}
		case 3:
			j := i + m.Intn(len(l)-i) // two parentheses
			l = append(append(append(append(append([]string{}, l[:i]...), "("), l[i:j+1]...), ")"), l[j+1:]...)
		}
	}
	return l
}

// P11.1, R1: statements put together by chance from parts of any kind.
func TestAnything(t *testing.T) {
	chance := rand.New(rand.NewSource(114))
	times := map[api.Errno]int{}
	for range 30000 {
		var s api.Statement
		fill(chance, reflect.ValueOf(&s).Elem(), 0)
		times[wantModel(t, s)]++
		print.Same(s.Query, s.Query)
	}
	if times[api.ErrForm] < 1000 || times[api.ErrName] < 50 || times[api.OK] < 50 {
		t.Errorf("%v", times)
	}
}

// fill makes up a part of a tree, most of whose fields are zero.
func fill(chance *rand.Rand, v reflect.Value, deep int) {
	if deep > 0 && chance.Intn(3) > 0 {
		return
	}
	switch v.Kind() {
	case reflect.Struct:
		for i := range v.NumField() {
			fill(chance, v.Field(i), deep+1)
		}
	case reflect.Slice:
		if deep < 14 {
			v.Set(reflect.MakeSlice(v.Type(), chance.Intn(3), 3))
			for i := range v.Len() {
				fill(chance, v.Index(i), deep/2)
			}
		}
	case reflect.Bool:
		v.SetBool(true)
	case reflect.String:
		v.SetString([]string{"a", "b", "a1", "select", "1"}[chance.Intn(5)])
	default:
		v.SetInt(int64(chance.Intn(33) - 2))
	}
}
