package rules_test

import (
	"reflect"
	"slices"
	"strings"
	"testing"
	"unsafe"

	"touchmark/api"
	"touchmark/plan"
	"touchmark/rules"
)

// nested is a plan in so many others.
func nested(p api.Plan, n int) api.Plan {
	for range n {
		p = one(api.PlanDistinct, p)
	}
	return p
}

// negated is a condition in so many others.
func negated(x api.Term, n int) api.Term {
	for range n {
		x = op(api.OpNot, x)
	}
	return x
}

// P15.2: a plan that a rule makes too deep is none; the plans are as deep as they may be, with one plan or term more or fewer.
func TestDepth(t *testing.T) {
	c, s, u := col(2), scan("t"), scan("u")
	choose := func(x api.Term, p api.Plan) api.Plan { return one(api.PlanSelect, p, x) }
	join := func(x api.Term, p, q api.Plan) api.Plan { return two(api.PlanJoin, p, q, x) }
	for i, d := range []struct {
		rule int
		most int // of what can be nested so that the rule applies
		p    func(n int) api.Plan
	}{
		{0, 45, func(n int) api.Plan { return choose(negated(c, n), choose(c, s)) }},
		{2, 45, func(n int) api.Plan { return choose(negated(col(0), n-21), one(api.PlanProject, s, negated(c, 21))) }},
		{2, 45, func(n int) api.Plan { return choose(negated(col(0), n), one(api.PlanProject, s, c)) }},
		{3, 45, func(n int) api.Plan { return choose(negated(c, n), join(c, s, u)) }},
		{4, 46, func(n int) api.Plan { return join(op(api.OpAnd, c, c), nested(s, n-1), u) }},
		{5, 46, func(n int) api.Plan { return join(op(api.OpAnd, c, c), nested(s, n-1), u) }},
		{6, 46, func(n int) api.Plan { return join(op(api.OpAnd, op(api.OpIsNull, col(3)), c), s, nested(u, n-1)) }},
		{7, 46, func(n int) api.Plan { return join(c, s, nested(u, n-1)) }},
		{7, 45, func(n int) api.Plan { return join(negated(c, n), s, u) }},
		{8, 46, func(n int) api.Plan { return join(c, join(c, s, u), nested(u, n-1)) }},
		{8, 45, func(n int) api.Plan { return join(negated(c, n), join(c, s, u), u) }},
		{9, 45, func(n int) api.Plan { return choose(negated(c, n), two(api.PlanLeft, s, u, c)) }},
		{11, 45, func(n int) api.Plan { return choose(negated(op(api.OpIsNull, col(0)), n-1), two(api.PlanUnion, u, u)) }},
		{12, 45, func(n int) api.Plan { return choose(negated(c, n), one(api.PlanDistinct, s)) }},
		{13, 45, func(n int) api.Plan { return choose(negated(col(0), n-21), one(api.PlanGroup, s, negated(c, 21))) }},
		{14, 46, func(n int) api.Plan {
			return one(api.PlanProject, one(api.PlanProject, s, negated(c, 21)), negated(col(0), n-21))
		}},
		{17, 45, func(n int) api.Plan { return choose(negated(c, n), two(api.PlanSemi, s, u, c)) }},
	} {
		for n := d.most - 2; n <= d.most+1; n++ {
			p := d.p(n)
			if _, e := plan.Check(tables(), p); e != api.OK {
				t.Errorf("plan %d of %d: error %d", i, n, e)
			}
			if made, ok := rules.Apply(tables(), p, d.rule, 0); ok != (n <= d.most) || ok == plan.Same(made, api.Plan{}) {
				t.Errorf("plan %d of %d: %t", i, n, ok)
			}
		}
	}
}

// flat returns conditions around leaves, as flat as it can be.
func flat(leaves []api.Term) api.Term {
	if len(leaves) == 1 {
		return leaves[0]
	}
	return op(api.OpAnd, flat(leaves[:len(leaves)/2]), flat(leaves[len(leaves)/2:]))
}

// R1: where terms take the place of columns, a plan that would be too deep is told, however large it would be; one that is beyond the bound is not made.
func TestManyColumns(t *testing.T) {
	for _, shape := range []string{"select", "project", "group"} {
		for _, deep := range []int{0, 17} { // 15 and 15 terms nested in one another, or more than can be
			many := flat(slices.Repeat([]api.Term{negated(col(0), deep)}, 1<<14))
			inner := api.Plan{Op: api.PlanProject, Args: []api.Plan{scan("t")}, Terms: []api.Term{flat(slices.Repeat([]api.Term{negated(col(2), deep)}, 1<<14))}}
			p, rule := one(api.PlanSelect, inner, many), 2
			switch shape {
			case "project":
				p.Op, rule = api.PlanProject, 14
			case "group":
				p.Args[0].Op, rule = api.PlanGroup, 13
			}
			if _, e := plan.Check(tables(), p); e != api.OK {
				t.Fatal(e)
			}
			if made, ok := rules.Apply(tables(), p, rule, 0); ok || made.Op != 0 {
				t.Errorf("%s %d: %t", shape, deep, ok)
			}
		}
	}
	p := read("select (and 0 0) (project [2] (scan t))").plan()
	p.Terms[0] = flat(slices.Repeat([]api.Term{col(0)}, 1<<9))
	p.Args[0].Terms[0] = flat(slices.Repeat([]api.Term{col(2)}, 1<<9))
	made, ok := rules.Apply(tables(), p, 2, 0)
	if !ok || !plan.Same(made.Args[0], one(api.PlanSelect, scan("t"), flat(slices.Repeat([]api.Term{col(2)}, 1<<18)))) {
		t.Error("many columns that there is room for")
	}
}

// R1: what is nested much too deep, or much too wide.
func TestHuge(t *testing.T) {
	deep := negated(col(2), 1<<16-1)
	if !rules.Quiet(deep) || rules.Quiet(negated(op(api.OpNeg, col(0)), 1<<16-2)) {
		t.Error("a deep term")
	}
	wide := op(api.OpAnd, slices.Repeat([]api.Term{col(0)}, 1<<20)...)
	if rules.Quiet(wide) || !rules.Quiet(op(api.OpValue, wide.Args...)) {
		t.Error("a wide term")
	}
	for i, p := range []api.Plan{nested(one(api.PlanSelect, scan("t"), val(yes)), 1<<16-2), one(api.PlanSelect, scan("t"), deep), one(api.PlanSelect, scan("t"), wide), one(api.PlanUnion, api.Plan{Args: make([]api.Plan, 1<<20)})} {
		for rule := range 20 {
			if made, ok := rules.Apply(tables(), p, rule, 0); ok || !plan.Same(made, api.Plan{}) {
				t.Errorf("plan %d: rule %d", i, rule)
			}
		}
	}
	many := one(api.PlanProject, scan("t"), slices.Repeat([]api.Term{col(0), op(api.OpIsNull, col(1))}, 1<<17)...)
	made, ok := rules.Apply(tables(), two(api.PlanJoin, many, scan("u"), op(api.OpEq, col(0), col(1<<18))), 7, 0)
	if !ok || len(made.Terms) != 1<<18+2 || made.Terms[0].Col != 2 || made.Terms[1<<18].Col != 0 || made.Args[0].Terms[0].Args[0].Col != 2 || made.Args[0].Terms[0].Args[1].Col != 0 {
		t.Error("a join of many columns")
	}
	many.Terms = append(many.Terms, op(api.OpNeg, val(number(1))))
	made, ok = rules.Apply(tables(), many, 19, 0)
	if !ok || len(made.Terms) != 1<<18+1 || made.Terms[1<<18].Value != number(-1) {
		t.Error("many terms")
	}
}

// everything is all that functions can be given.
type everything struct {
	tables   []api.Table
	p        api.Plan
	x        api.Term
	rule, at int
}

func (a everything) tidy() everything {
	return everything{tidy(a.tables), tidy(a.p), tidy(a.x), a.rule, a.at}
}

func (a *everything) parts() []reflect.Value {
	var l []reflect.Value
	for _, x := range []any{&a.tables, &a.p, &a.x} {
		l = append(l, reflect.ValueOf(x).Elem())
	}
	return l
}

func madeEverything(seed int) everything {
	m := newMaker(int64(seed))
	p := m.plan(seed % 20)
	if m.Intn(10) == 0 {
		p = change(m, p)
	}
	return everything{m.state.Tables, p, m.condition(m.kinds(), 0), seed % 20, m.Intn(2)}.tidy()
}

// call calls all functions.
func (a everything) call() []any {
	made, ok := rules.Apply(a.tables, a.p, a.rule, a.at)
	return []any{tidy(made), ok, rules.Quiet(a.x), rules.Count()}
}

// R3, R4: arguments stay as they are, behind their ends, too; calls one behind the other answer the same.
func TestArgumentsStay(t *testing.T) {
	for seed := range 4000 {
		a := madeEverything(seed)
		for _, v := range a.parts() {
			roomy(v)
		}
		before := a.tidy()
		results := a.call()
		if !reflect.DeepEqual(a.tidy(), before) {
			t.Fatalf("%+v: was %+v", a, before)
		}
		for _, v := range a.parts() {
			if slices.Contains(spares(v), false) {
				t.Fatalf("%+v: changed behind an end", a)
			}
		}
		if again := before.call(); !reflect.DeepEqual(results, again) {
			t.Fatalf("%v, %v", results, again)
		}
	}
}

// roomy gives all slices a spare element.
func roomy(v reflect.Value) {
	walk(v, func(v reflect.Value) {
		if v.Kind() == reflect.Slice {
			more := reflect.MakeSlice(v.Type(), 1, 1)
			v.Set(reflect.AppendSlice(v, more).Slice(0, v.Len()))
		}
	})
}

// spares tells of all slices' spare elements whether they are zero.
func spares(v reflect.Value) []bool {
	var l []bool
	walk(v, func(v reflect.Value) {
		if v.Kind() == reflect.Slice {
			for i := v.Len(); i < v.Cap(); i++ {
				l = append(l, v.Slice(0, v.Cap()).Index(i).IsZero())
			}
		}
	})
	return l
}

// memory is where a list or a text begins, and where it ends with its room.
type memory struct{ from, to uintptr }

// memories returns those of all lists, and of all texts, in a tree.
func memories(v reflect.Value) (lists, texts []memory) {
	walk(v, func(v reflect.Value) {
		switch {
		case v.Kind() == reflect.Slice && v.Cap() > 0:
			from := v.Pointer()
			lists = append(lists, memory{from, from + uintptr(v.Cap())*v.Type().Elem().Size()})
		case v.Kind() == reflect.String && v.Len() > 0:
			from := uintptr(unsafe.Pointer(unsafe.StringData(v.String())))
			texts = append(texts, memory{from, from + uintptr(v.Len())})
		}
	})
	return lists, texts
}

func overlap(l []memory, a memory) bool {
	return slices.ContainsFunc(l, func(b memory) bool { return a.from < b.to && b.from < a.to })
}

// R3: no two lists or texts of a result share memory, and none shares it with an argument.
func TestResultsShareNothing(t *testing.T) {
	var applied [20]int
	texts := 0
	for seed := range 12000 {
		a := madeEverything(seed)
		made, ok := rules.Apply(a.tables, a.p, a.rule, a.at)
		if !ok {
			continue
		}
		applied[a.rule]++
		given, givenTexts := []memory(nil), []memory(nil)
		for _, v := range a.parts() {
			l, x := memories(v)
			given, givenTexts = append(given, l...), append(givenTexts, x...)
		}
		own, ownTexts := memories(reflect.ValueOf(&made).Elem())
		for i, m := range own {
			if overlap(own[:i], m) || overlap(given, m) {
				t.Fatalf("seed %d: a list is another one's memory, too", seed)
			}
		}
		for i, m := range ownTexts {
			if m.to-m.from > 1 && (overlap(ownTexts[:i], m) || overlap(givenTexts, m)) {
				t.Fatalf("seed %d: a text is another one's memory, too", seed)
			}
		}
		texts += len(ownTexts)
	}
	wantEnough(t, "results", applied, 10)
	if texts < 1000 {
		t.Errorf("%d texts alone", texts)
	}
}

// R3: results stay as they are whatever happens to the arguments' memory.
func TestTextsAreNotShared(t *testing.T) {
	given := []byte("tablescolumnabc")
	piece := func(from, to int) string { return unsafe.String(&given[from], to-from) }
	l := []api.Table{{Name: piece(0, 6), Columns: []api.Column{{Name: piece(6, 12), Kind: api.Text}}}}
	p := one(api.PlanSelect, scan(piece(0, 6)), op(api.OpGe, col(0), val(letters(piece(12, 15)))))
	seek, ok1 := rules.Apply(l, p, 18, 0)
	split, ok2 := rules.Apply(l, one(api.PlanSelect, p.Args[0], op(api.OpAnd, p.Terms[0], val(yes))), 1, 0)
	copy(given, strings.Repeat("#", len(given)))
	if !ok1 || !ok2 || tell(seek) != "select (ge 0 'abc') (seek tables 'abc' null)" || tell(split) != "select true (select (ge 0 'abc') (scan tables))" {
		t.Errorf("%s, %s", tell(seek), tell(split))
	}
}
