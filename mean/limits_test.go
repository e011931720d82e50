package mean_test

import (
	"math"
	"reflect"
	"slices"
	"strings"
	"testing"
	"unsafe"

	"touchmark/api"
	"touchmark/mean"
	"touchmark/plan"
)

// R1: terms that are nested as deep, or are as wide, as they can be.
func TestHugeTerms(t *testing.T) {
	x := col(0)
	for range 1<<16 - 2 {
		x = op(api.OpNeg, x)
	}
	wantTerm(t, x, api.Row{number(5)}, number(5), api.OK)
	wantTerm(t, op(api.OpNeg, x), api.Row{number(5)}, number(-5), api.OK)
	wantTerm(t, x, api.Row{number(math.MinInt64)}, null, api.ErrOverflow)
	wide := op(api.OpAdd, slices.Repeat([]api.Term{col(1<<20 - 1)}, 1<<20)...)
	row := make(api.Row, 1<<20)
	row[1<<20-1] = yes
	if v, e := mean.Term(wide, row); v != null || e != api.ErrArg {
		t.Errorf("a wide term: %s, %d", tellValue(v), e)
	}
	if v, e := mean.Term(col(1<<20-1), row); v != yes || e != api.OK {
		t.Errorf("a wide row: %s, %d", tellValue(v), e)
	}
	long := letters(strings.Repeat("x", 1<<20))
	wantTerm(t, op(api.OpIsNull, val(long)), nil, no, api.OK)
}

// R1: states that are much too large, and plans much too deep.
func TestHugeStates(t *testing.T) {
	s := state(t, "create table t (a int)")
	s.Rows[0] = slices.Repeat([]api.Counted{{Row: api.Row{number(1)}, Count: 1}}, 1<<20)
	wantMay(t, "a row too often", s, false)
	for i := range s.Rows[0] {
		s.Rows[0][i] = api.Counted{Row: api.Row{number(int64(i))}, Count: 1}
	}
	wantMay(t, "too many rows", s, false)
	s.Rows[0] = []api.Counted{{Row: make(api.Row, 1<<20), Count: 1}}
	wantMay(t, "a row that is too long", s, false)
	s.Rows[0] = nil
	p := scan("t")
	for range 1 << 16 {
		p = one(api.PlanDistinct, p)
	}
	wantRuns(t, s, []ran{{p, "error 13"}, {project(scan("t"), slices.Repeat([]api.Term{col(0)}, 1<<16)...), ""}})
}

// large is a state with n rows (0), (1) .. in t, and n / 2 of (7) and of (8) in u.
func large(t *testing.T, n int) api.State {
	s := state(t, "create table t (a int primary key)", "create table u (a int)")
	for i := range n {
		s.Rows[0] = append(s.Rows[0], api.Counted{Row: api.Row{number(int64(i))}, Count: 1})
	}
	s.Rows[1] = []api.Counted{{Row: api.Row{number(7)}, Count: int64(n / 2)}, {Row: api.Row{number(8)}, Count: int64(n / 2)}}
	return s
}

// P14.3: many rows in between, of which few or many are equal, against the model.
func TestManyRows(t *testing.T) {
	s := large(t, 90)
	for _, src := range []string{
		"select distinct x.a % 3, y.a % 5 from t as x join t as y on true", "select distinct x.a - x.a from t as x join t as y on true", "select x.a % 7, count(*), sum(x.a * y.a), min(y.a), max(x.a + y.a) from t as x join t as y on x.a > 40 group by x.a % 7",
		"select x.a % 3 from t as x join t as y on true except all select y.a % 4 from u as x join t as y on true", "select x.a % 2 from t as x join (select u.a from u join t on true) as y on x.a = y.a", "select a from u where a in (select x.a + y.a from t as x join t as y on true)", "select x.a, y.a as b from t as x join t as y on x.a + y.a < 89 order by b limit 50",
	} {
		q := query(t, src)
		p, e := plan.Lower(s.Tables, q)
		want, f := modelRun(s, p)
		a, g := mean.Query(s, q)
		if e != api.OK || g != api.OK || len(want) == 0 || told(a.Rows, g) != told(want, f) {
			t.Errorf("%s: %d, %d rows, not %d", src, g, len(a.Rows), len(want))
		}
	}
}

// P14.3: tables with as many rows as there can be.
func TestMaxRows(t *testing.T) {
	s := large(t, api.MaxRows)
	wantQueries(t, s, [][2]string{
		{"select count(*), sum(a), max(a) from t", "4096 8386560 4095"}, {"select a, count(*) from u group by a", "7 2048; 8 2048"}, {"select count(*) from u as x join u as y on x.a = y.a", "8388608"}, {"select x.a, count(*), sum(y.a) from u as x join u as y on x.a <= y.a group by x.a", "7 8388608 62914560; 8 4194304 33554432"}, {"select count(*) from t join u on t.a = u.a", "4096"}, {"select distinct t.a - u.a from t join u on t.a = u.a", "0"},
	})
	a, e := mean.Query(s, query(t, "select * from t order by a desc"))
	if e != api.OK || len(a.Rows) != api.MaxRows || a.Rows[0][0].N != api.MaxRows-1 || a.Rows[api.MaxRows-1][0].N != 0 {
		t.Errorf("all rows, down: %d, %d", e, len(a.Rows))
	}
	b, e := mean.Run(s, two(api.PlanUnion, scan("u"), scan("u")))
	if e != api.OK || len(b) != 2*api.MaxRows || b[api.MaxRows-1][0].N != 7 || b[api.MaxRows][0].N != 8 {
		t.Errorf("a union: %d, %d", e, len(b))
	}
}

// everything is all that functions can be given.
type everything struct {
	s api.State
	p api.Plan
	q api.Query
	x api.Term
	r api.Row
}

func (a everything) tidy() everything {
	return everything{tidy(a.s), tidy(a.p), tidy(a.q), tidy(a.x), tidy(a.r)}
}

func (a *everything) parts() []reflect.Value {
	var l []reflect.Value
	for _, x := range []any{&a.s, &a.p, &a.q, &a.x, &a.r} {
		l = append(l, reflect.ValueOf(x).Elem())
	}
	return l
}

func madeEverything(t *testing.T, seed int64) everything {
	m := newMaker(seed)
	m.spoil = pick(m, 0, 0, 50)
	a := everything{s: m.state, p: m.plan(), x: m.term(api.Int, []int{api.Int, api.Text})}
	a.r = api.Row{m.value(api.Int, true), m.value(api.Text, true)}
	if m.maybe() {
		a.s, a.p = madeState(t, m), seek("t", val(null), num(2))
	}
	a.q = query(t, pick(m, statements()...))
	return a.tidy()
}

// call calls all functions.
func (a everything) call() []any {
	rows, e := mean.Run(a.s, a.p)
	answer, f := mean.Query(a.s, a.q)
	v, g := mean.Term(a.x, a.r)
	return []any{tidy(rows), e, tidy(answer), f, v, g, mean.May(a.s)}
}

// R3, R4: arguments stay as they are, behind their ends, too; calls one behind the other answer the same.
func TestArgumentsStay(t *testing.T) {
	for seed := range int64(2000) {
		a := madeEverything(t, seed)
		for _, v := range a.parts() {
			roomy(v)
		}
		before := a.tidy()
		results := a.call()
		if !reflect.DeepEqual(a.tidy(), before) {
			t.Fatalf("%+v: was %+v", a, before)
		}
		for _, v := range a.parts() {
			if slices.Contains(spares(v), false) {
				t.Fatalf("%+v: changed behind an end", a)
			}
		}
		if again := before.call(); !reflect.DeepEqual(results, again) {
			t.Fatalf("%v, %v", results, again)
		}
	}
}

// roomy gives all slices a spare element.
func roomy(v reflect.Value) {
	walk(v, func(v reflect.Value) {
		if v.Kind() == reflect.Slice {
			more := reflect.MakeSlice(v.Type(), 1, 1)
			v.Set(reflect.AppendSlice(v, more).Slice(0, v.Len()))
		}
	})
}

// spares tells of all slices' spare elements whether they are zero.
func spares(v reflect.Value) []bool {
	var l []bool
	walk(v, func(v reflect.Value) {
		if v.Kind() == reflect.Slice {
			for i := v.Len(); i < v.Cap(); i++ {
				l = append(l, v.Slice(0, v.Cap()).Index(i).IsZero())
			}
		}
	})
	return l
}

// memory is where a list or a text begins, and where it ends with its room.
type memory struct{ from, to uintptr }

// memories returns those of all lists, and of all texts, in a tree.
func memories(v reflect.Value) (lists, texts []memory) {
	walk(v, func(v reflect.Value) {
		switch {
		case v.Kind() == reflect.Slice && v.Cap() > 0:
			from := v.Pointer()
			lists = append(lists, memory{from, from + uintptr(v.Cap())*v.Type().Elem().Size()})
		case v.Kind() == reflect.String && v.Len() > 0:
			from := uintptr(unsafe.Pointer(unsafe.StringData(v.String())))
			texts = append(texts, memory{from, from + uintptr(v.Len())})
		}
	})
	return lists, texts
}

func overlap(l []memory, a memory) bool {
	return slices.ContainsFunc(l, func(b memory) bool { return a.from < b.to && b.from < a.to })
}

// R3: no two lists or texts of a result share memory, and none shares it with an argument.
func TestResultsShareNothing(t *testing.T) {
	lists, texts := 0, 0
	for seed := range int64(2000) {
		a := madeEverything(t, seed)
		rows, _ := mean.Run(a.s, a.p)
		answer, _ := mean.Query(a.s, a.q)
		if len(rows) > 300 {
			continue
		}
		given, givenTexts := []memory(nil), []memory(nil)
		for _, v := range a.parts() {
			l, x := memories(v)
			given, givenTexts = append(given, l...), append(givenTexts, x...)
		}
		for _, v := range []reflect.Value{reflect.ValueOf(&rows).Elem(), reflect.ValueOf(&answer).Elem()} {
			own, ownTexts := memories(v)
			for i, m := range own {
				if overlap(own[:i], m) || overlap(given, m) {
					t.Fatalf("seed %d: a list is another one's memory, too", seed)
				}
			}
			for i, m := range ownTexts {
				if m.to-m.from > 1 && (overlap(ownTexts[:i], m) || overlap(givenTexts, m)) {
					t.Fatalf("seed %d: a text is another one's memory, too", seed)
				}
			}
			lists, texts = lists+len(own), texts+len(ownTexts)
		}
	}
	if lists < 5000 || texts < 1000 {
		t.Errorf("%d lists and %d texts alone", lists, texts)
	}
}

// R3: results stay as they are whatever happens to the arguments' memory.
func TestTextsAreNotShared(t *testing.T) {
	given := []byte("abcdefghijkl")
	piece := func(from, to int) string { return unsafe.String(&given[from], to-from) }
	s := state(t, "create table t (a text not null, b int)")
	s.Tables[0].Columns[0].Name = piece(0, 3)
	s.Rows[0] = []api.Counted{{Row: api.Row{letters(piece(3, 6)), number(1)}, Count: 2}}
	column, e1 := mean.Term(col(0), api.Row{letters(piece(6, 9))})
	literal, e2 := mean.Term(val(letters(piece(9, 12))), nil)
	rows, e3 := mean.Run(s, project(scan("t"), col(0), val(letters(piece(9, 12)))))
	maximum, e4 := mean.Run(s, group(scan("t"), nil, agg(api.OpMax, col(0))))
	answer, e5 := mean.Query(s, query(t, "select * from t"))
	for i := range given {
		given[i] = '#'
	}
	if column.S != "ghi" || literal.S != "jkl" || tell(rows) != "'def' 'jkl'; 'def' 'jkl'" || tell(maximum) != "'def'" || tell(answer.Rows) != "'def' 1; 'def' 1" || answer.Columns[0].Name != "abc" || e1+e2+e3+e4+e5 != api.OK {
		t.Errorf("%s, %s, %s, %s, %s, %v", column.S, literal.S, tell(rows), tell(maximum), tell(answer.Rows), answer.Columns)
	}
}
