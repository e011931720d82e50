package plan_test

import (
	"strings"
	"testing"

	"touchmark/api"
	"touchmark/plan"
)

func col(i int) api.Term { return api.Term{Op: api.OpColumn, Col: i} }

func val(v api.Value) api.Term { return api.Term{Op: api.OpValue, Value: v} }

func num(n int64) api.Term { return val(api.Value{Kind: api.Int, N: n}) }

func text(s string) api.Term { return val(api.Value{Kind: api.Text, S: s}) }

func truth(n int64) api.Term { return val(api.Value{Kind: api.Bool, N: n}) }

func null() api.Term { return val(api.Value{}) }

func op(op int, args ...api.Term) api.Term { return api.Term{Op: op, Args: args} }

func agg(op int, args ...api.Term) api.Agg { return api.Agg{Op: op, Args: args} }

func scan(t string) api.Plan { return api.Plan{Op: api.PlanScan, Table: t} }

func seek(t string, terms ...api.Term) api.Plan {
	return api.Plan{Op: api.PlanSeek, Table: t, Terms: terms}
}

// one is a plan with one other in it, two one with two.
func one(op int, p api.Plan, terms ...api.Term) api.Plan {
	return api.Plan{Op: op, Args: []api.Plan{p}, Terms: terms}
}

func two(op int, a, b api.Plan, terms ...api.Term) api.Plan {
	return api.Plan{Op: op, Args: []api.Plan{a, b}, Terms: terms}
}

func project(p api.Plan, terms ...api.Term) api.Plan { return one(api.PlanProject, p, terms...) }

func choose(p api.Plan, t api.Term) api.Plan { return one(api.PlanSelect, p, t) }

func group(p api.Plan, terms []api.Term, aggs ...api.Agg) api.Plan {
	return api.Plan{Op: api.PlanGroup, Args: []api.Plan{p}, Terms: terms, Aggs: aggs}
}

func sorted(p api.Plan, keys ...int) api.Plan {
	s := api.Plan{Op: api.PlanSort, Args: []api.Plan{p}}
	for _, k := range keys {
		s.Keys = append(s.Keys, api.Key{Col: k, Down: k%2 == 1})
	}
	return s
}

func limit(p api.Plan, n int64) api.Plan {
	return api.Plan{Op: api.PlanLimit, Args: []api.Plan{p}, N: n}
}

// wrapped is a plan in that many others.
func wrapped(p api.Plan, n int) api.Plan {
	for range n {
		p = one(api.PlanDistinct, p)
	}
	return p
}

// negated is a term in that many others.
func negated(t api.Term, n int) api.Term {
	for range n {
		t = op(api.OpNeg, t)
	}
	return t
}

// wantCheck asks for a plan's columns.
func wantCheck(t *testing.T, p api.Plan, want string) {
	t.Helper()
	l, e := plan.Check(tables(), p)
	if e != api.OK || columnsOf(l) != want {
		t.Errorf("%s: %s, %d, not %s", tell(p), columnsOf(l), e, want)
	}
}

// bad is a plan, and the error that is asked for.
type bad struct {
	p api.Plan
	e api.Errno
}

func wantFaults(t *testing.T, l []bad) {
	t.Helper()
	for i, c := range l {
		got, e := plan.Check(tables(), c.p)
		if e != c.e || len(got) > 0 {
			t.Errorf("plan %d: %s, %d, not %d", i, columnsOf(got), e, c.e)
		}
	}
}

const (
	ofT = "a int, b text?, c bool?"
	ofU = "a int?, d int?"
)

// P13.2: the columns of all kinds of plans.
func TestColumns(t *testing.T) {
	t1, u1 := scan("t"), scan("u")
	for _, c := range []struct {
		p    api.Plan
		want string
	}{
		{t1, ofT}, {scan("w"), "a text, e bool, f int"},
		{seek("t", num(1), num(2)), ofT}, {seek("t", null(), num(2)), ofT}, {seek("t", num(-1), null()), ofT}, {seek("t", null(), null()), ofT},
		{choose(t1, col(2)), ofT}, {choose(u1, null()), ofU}, {choose(u1, truth(0)), ofU},
		{project(t1, col(2), col(0), num(1), text("x"), truth(1), null()), "- bool?, - int, - int, - text, - bool, - null?"},
		{two(api.PlanJoin, t1, u1, op(api.OpEq, col(0), col(4))), ofT + ", " + ofU}, {two(api.PlanJoin, u1, t1, col(4)), ofU + ", " + ofT},
		{two(api.PlanLeft, u1, t1, col(4)), ofU + ", a int?, b text?, c bool?"}, {two(api.PlanLeft, t1, scan("w"), col(4)), ofT + ", a text?, e bool?, f int?"},
		{two(api.PlanSemi, t1, u1, op(api.OpEq, col(0), col(4))), ofT}, {two(api.PlanAnti, u1, t1, col(4)), ofU}, {two(api.PlanSemi, t1, u1, null()), ofT},
		{group(t1, []api.Term{col(1), op(api.OpAdd, col(0), num(1))}, agg(api.OpCountAll), agg(api.OpCount, col(1)), agg(api.OpSum, col(0)), agg(api.OpMin, col(1)), agg(api.OpMax, col(2))), "- text?, - int, - int, - int, - int?, - text?, - bool?"},
		{group(t1, nil, agg(api.OpCountAll)), "- int"}, {group(t1, []api.Term{col(0)}), "- int"}, {group(t1, nil, agg(api.OpSum, null()), agg(api.OpMin, null()), agg(api.OpMax, col(0))), "- int?, - null?, - int?"},
		{one(api.PlanDistinct, t1), ofT}, {sorted(t1, 2, 1), ofT}, {sorted(t1), ofT}, {limit(sorted(t1, 0), 0), ofT}, {limit(sorted(u1, 1), 9), ofU},
		{project(two(api.PlanLeft, t1, scan("w"), null()), col(3), col(5)), "- text?, - int?"},
		{choose(group(t1, []api.Term{col(1)}, agg(api.OpCountAll)), op(api.OpGt, col(1), num(2))), "- text?, - int"},
	} {
		wantCheck(t, c.p, c.want)
	}
}

// P13.2: the columns of two plans together: the left one's names, the kind that is not Null, nullable if one of them is.
func TestUnions(t *testing.T) {
	for _, kind := range []int{api.PlanUnion, api.PlanExcept} {
		for _, c := range []struct {
			a, b api.Plan
			want string
		}{
			{scan("t"), scan("t"), ofT}, {scan("u"), project(scan("t"), col(0), num(1)), ofU}, {project(scan("t"), col(0), num(1)), scan("u"), "- int?, - int?"},
			{scan("w"), project(scan("t"), null(), null(), null()), "a text?, e bool?, f int?"}, {project(scan("t"), null(), null(), null()), scan("w"), "- text?, - bool?, - int?"},
			{project(scan("t"), null()), project(scan("t"), null()), "- null?"}, {scan("w"), project(scan("t"), text(""), truth(1), col(0)), "a text, e bool, f int"},
		} {
			wantCheck(t, two(kind, c.a, c.b), c.want)
		}
		wantFaults(t, []bad{
			{two(kind, scan("t"), scan("u")), api.ErrCount}, {two(kind, scan("u"), scan("t")), api.ErrCount}, {two(kind, scan("t"), scan("w")), api.ErrKind},
			{two(kind, project(scan("t"), text("x"), num(1)), project(scan("t"), num(1))), api.ErrCount}, {two(kind, project(scan("t"), num(1), num(1)), project(scan("t"), num(1), text("x"))), api.ErrKind},
			{two(kind, scan("t"), scan("nosuch")), api.ErrName}, {two(kind, scan("t"), scan("u"), truth(1)), api.ErrForm},
		})
	}
}

// P13.2: the kinds of terms, and when they are nullable.
func TestTerms(t *testing.T) {
	one := func(want string, terms ...api.Term) {
		t.Helper()
		for _, x := range terms {
			wantCheck(t, project(scan("t"), x), "- "+want)
		}
	}
	for k := api.OpAdd; k <= api.OpRem; k++ {
		one("int", op(k, col(0), num(2)))
		one("int?", op(k, col(0), null()), op(k, null(), null()))
	}
	for k := api.OpEq; k <= api.OpGe; k++ {
		one("bool", op(k, col(0), num(2)), op(k, text("x"), text("y")), op(k, truth(0), truth(1)))
		one("bool?", op(k, col(1), text("x")), op(k, null(), truth(1)), op(k, col(2), col(2)))
	}
	one("bool", op(api.OpAnd, truth(1), truth(0)), op(api.OpOr, op(api.OpEq, col(0), col(0)), truth(0)), op(api.OpNot, truth(1)))
	one("bool?", op(api.OpAnd, col(2), truth(0)), op(api.OpOr, null(), truth(0)), op(api.OpNot, null()), op(api.OpNot, col(2)))
	one("bool", op(api.OpIsNull, col(1)), op(api.OpNotNull, null()), op(api.OpIsNull, op(api.OpAdd, null(), col(0))))
	one("int", op(api.OpNeg, col(0)), negated(num(1), 45))
	one("int?", op(api.OpNeg, null()))
}

// P13.2: what is no term, what refers to no column, and what has no kind; inner ones first, from left to right.
func TestErrorsOfTerms(t *testing.T) {
	form, kind, far := api.Term{Op: api.OpValue, Col: 1}, op(api.OpNeg, col(1)), col(3)
	invalid := val(api.Value{Kind: 4})
	for i, c := range []struct {
		x api.Term
		e api.Errno
	}{
		{api.Term{}, api.ErrForm}, {form, api.ErrForm}, {api.Term{Op: -1}, api.ErrForm}, {api.Term{Op: 99}, api.ErrForm}, {api.Term{Op: api.OpName}, api.ErrForm},
		{op(api.OpValue, far), api.ErrForm}, {op(api.OpColumn, far), api.ErrForm}, {op(api.OpColumn, invalid), api.ErrForm}, {api.Term{Op: api.OpColumn, Col: 7, Value: api.Value{N: 1}}, api.ErrForm},
		{api.Term{Op: api.OpValue, Col: 1, Value: api.Value{Kind: 9}}, api.ErrForm}, {api.Term{Op: api.OpColumn, Value: api.Value{S: "x"}}, api.ErrForm},
		{op(api.OpNeg), api.ErrForm}, {op(api.OpNeg, num(1), num(1)), api.ErrForm}, {op(api.OpAdd), api.ErrForm}, {op(api.OpAdd, num(1)), api.ErrForm}, {op(api.OpAnd, col(2), col(2), col(2)), api.ErrForm}, {op(api.OpNot, col(2), col(2)), api.ErrForm}, {op(api.OpIsNull), api.ErrForm},
		{api.Term{Op: api.OpNeg, Col: 1, Args: []api.Term{num(1)}}, api.ErrForm}, {api.Term{Op: api.OpNeg, Value: api.Value{Kind: api.Int}, Args: []api.Term{num(1)}}, api.ErrForm}, {api.Term{Op: api.OpEq, Value: api.Value{N: 1}, Args: []api.Term{num(1), text("x")}}, api.ErrForm},
		{op(api.OpCountAll), api.ErrForm}, {op(api.OpCount, col(0)), api.ErrForm}, {op(api.OpSum, col(0)), api.ErrForm}, {op(api.OpMin, col(0)), api.ErrForm}, {op(api.OpMax, col(0)), api.ErrForm}, {op(api.OpExists), api.ErrForm}, {op(api.OpIn, col(0)), api.ErrForm},
		{far, api.ErrRange}, {col(-1), api.ErrRange}, {col(1 << 62), api.ErrRange}, {op(api.OpNeg, far), api.ErrRange},
		{op(api.OpAdd, far), api.ErrRange}, {op(api.OpCount, far), api.ErrRange}, {op(99, far), api.ErrRange}, {op(api.OpNeg, num(1), far), api.ErrRange}, {op(api.OpIn, kind), api.ErrKind}, {api.Term{Op: api.OpNeg, Col: 1, Args: []api.Term{far}}, api.ErrRange},
		{invalid, api.ErrKind}, {val(api.Value{Kind: -1}), api.ErrKind}, {val(api.Value{N: 1}), api.ErrKind}, {truth(2), api.ErrKind}, {val(api.Value{Kind: api.Int, S: "x"}), api.ErrKind}, {text(strings.Repeat("x", 65)), api.ErrKind},
		{kind, api.ErrKind}, {op(api.OpAdd, col(0), col(1)), api.ErrKind}, {op(api.OpNot, col(0)), api.ErrKind}, {op(api.OpAnd, col(2), num(1)), api.ErrKind}, {op(api.OpEq, col(0), col(1)), api.ErrKind}, {op(api.OpLt, truth(1), num(1)), api.ErrKind},
		{op(api.OpEq, form, far), api.ErrForm}, {op(api.OpEq, far, form), api.ErrRange}, {op(api.OpEq, kind, far), api.ErrKind}, {op(api.OpEq, far, kind), api.ErrRange}, {op(api.OpAdd, col(1), far), api.ErrRange}, {op(api.OpAdd, op(api.OpNeg, far), form), api.ErrRange},
	} {
		for j, p := range []api.Plan{
			project(scan("t"), c.x), project(scan("t"), col(0), c.x, api.Term{}, far, kind), group(scan("t"), []api.Term{col(0), c.x, api.Term{}}, agg(0)), group(scan("t"), []api.Term{col(0)}, agg(api.OpMax, col(0)), agg(api.OpMax, c.x), agg(0, far)),
			choose(scan("t"), op(api.OpIsNull, c.x)), two(api.PlanSemi, project(scan("t"), col(0)), project(scan("t"), col(1), col(2)), op(api.OpIsNull, c.x)),
		} {
			if l, e := plan.Check(tables(), p); e != c.e || len(l) > 0 {
				t.Errorf("term %d in plan %d: %d, not %d", i, j, e, c.e)
			}
		}
	}
	wantCheck(t, project(scan("t"), text(strings.Repeat("x", 64))), "- text")
}

// P13.2: what is no Agg, and what kinds they have.
func TestErrorsOfAggs(t *testing.T) {
	for i, c := range []struct {
		a api.Agg
		e api.Errno
	}{
		{agg(0), api.ErrForm}, {agg(99), api.ErrForm}, {agg(-1), api.ErrForm}, {agg(api.OpNeg, col(0)), api.ErrForm}, {agg(api.OpValue), api.ErrForm}, {agg(api.OpIsNull, col(0)), api.ErrForm}, {agg(api.OpAdd, col(0), col(0)), api.ErrForm}, {agg(api.OpExists), api.ErrForm},
		{agg(api.OpCountAll, col(0)), api.ErrForm}, {agg(api.OpCount), api.ErrForm}, {agg(api.OpSum), api.ErrForm}, {agg(api.OpMin, col(0), col(0)), api.ErrForm}, {agg(api.OpMax), api.ErrForm},
		{agg(api.OpCountAll, col(3)), api.ErrRange}, {agg(99, col(3)), api.ErrRange}, {agg(api.OpSum, col(0), col(3)), api.ErrRange}, {agg(api.OpCount, col(3)), api.ErrRange}, {agg(api.OpSum, op(api.OpNeg, col(1)), col(3)), api.ErrKind},
		{agg(api.OpSum, col(1)), api.ErrKind}, {agg(api.OpSum, col(2)), api.ErrKind}, {agg(api.OpCountAll, val(api.Value{Kind: 4})), api.ErrKind},
	} {
		wantFaults(t, []bad{{group(scan("t"), nil, c.a), c.e}, {group(scan("t"), []api.Term{col(1)}, agg(api.OpMin, col(1)), c.a, agg(0), agg(api.OpSum, col(9))), c.e}})
		if t.Failed() {
			t.Fatalf("agg %d", i)
		}
	}
	wantFaults(t, []bad{{group(scan("t"), []api.Term{col(9)}, agg(0)), api.ErrRange}, {group(scan("t"), nil, agg(0), agg(api.OpSum, col(9))), api.ErrForm}})
}

// samples is a plan of each kind that has no error.
func samples() []api.Plan {
	t, u := scan("t"), scan("u")
	return []api.Plan{
		t, seek("t", num(1), num(2)), choose(t, col(2)), project(t, col(0)),
		two(api.PlanJoin, t, u, col(2)), two(api.PlanLeft, t, u, col(2)), two(api.PlanSemi, t, u, col(2)), two(api.PlanAnti, t, u, col(2)),
		group(t, []api.Term{col(1)}, agg(api.OpCountAll)), two(api.PlanUnion, t, t), two(api.PlanExcept, t, t), one(api.PlanDistinct, t), sorted(t, 0), limit(sorted(t, 0), 1),
	}
}

// P13.2: a plan has the parts that its kind requires, and no others. Each list tells, of a part, with which kinds it may be.
func TestParts(t *testing.T) {
	may := func(p api.Plan, kinds ...int) bool { return strings.ContainsRune(string(runes(kinds)), rune(p.Op)) }
	for _, p := range samples() {
		wantCheck(t, p, must(p))
		table, terms, aggs, keys, n, more := p, p, p, p, p, p
		table.Table, n.N = "t", 2
		terms.Terms = append(append([]api.Term{}, p.Terms...), col(0))
		aggs.Aggs = append(append([]api.Agg{}, p.Aggs...), agg(api.OpMax, col(0)))
		keys.Keys = append(append([]api.Key{}, p.Keys...), api.Key{Col: 1})
		more.Args = append(append([]api.Plan{}, p.Args...), scan("t"))
		for i, c := range []struct {
			p  api.Plan
			ok bool
		}{
			{table, may(p, api.PlanScan, api.PlanSeek)}, {terms, may(p, api.PlanProject, api.PlanGroup)}, {aggs, may(p, api.PlanGroup)},
			{keys, may(p, api.PlanSort)}, {n, may(p, api.PlanLimit)}, {more, false},
		} {
			want := api.ErrForm
			if c.ok {
				want = api.OK
			}
			if _, e := plan.Check(tables(), c.p); e != want {
				t.Errorf("%s, changed part %d: %d, not %d", tell(p), i, e, want)
			}
		}
		for n := range p.Args {
			fewer := p
			fewer.Args = p.Args[:n]
			wantFaults(t, []bad{{fewer, api.ErrForm}})
		}
		n.N = -1
		wantFaults(t, []bad{{n, api.ErrForm}})
		p.Terms = p.Terms[:len(p.Terms)/2]
		if may(p, api.PlanSeek, api.PlanSelect, api.PlanProject, api.PlanJoin, api.PlanLeft, api.PlanSemi, api.PlanAnti) {
			wantFaults(t, []bad{{p, api.ErrForm}})
		}
	}
	wantFaults(t, []bad{
		{api.Plan{}, api.ErrForm}, {api.Plan{Op: -1}, api.ErrForm}, {api.Plan{Op: 15}, api.ErrForm}, {api.Plan{Op: 1 << 40, Table: "t"}, api.ErrForm}, {one(0, scan("nosuch")), api.ErrName}, {api.Plan{Op: 15, Terms: []api.Term{{}}}, api.ErrForm},
		{group(scan("t"), nil), api.ErrForm}, {seek("t"), api.ErrForm}, {seek("t", num(1)), api.ErrForm}, {seek("t", num(1), num(1), num(1)), api.ErrForm}, {seek("t", col(0), num(1)), api.ErrForm}, {seek("t", num(1), op(api.OpNeg, num(1))), api.ErrForm},
	})
}

func runes(l []int) (r []rune) {
	for _, x := range l {
		r = append(r, rune(x))
	}
	return r
}

// must is what columns the samples have.
func must(p api.Plan) string {
	switch p.Op {
	case api.PlanProject:
		return "- int"
	case api.PlanGroup:
		return "- text?, - int"
	case api.PlanJoin, api.PlanLeft:
		return ofT + ", " + ofU
	}
	return ofT
}

// P13.2: a sort or limit is outermost: all plans around it are limits.
func TestPlaces(t *testing.T) {
	s, l := sorted(scan("t"), 0), limit(sorted(scan("t"), 0), 1)
	for _, p := range []api.Plan{s, l} {
		wantFaults(t, []bad{
			{one(api.PlanDistinct, p), api.ErrForm}, {choose(p, col(2)), api.ErrForm}, {project(p, col(0)), api.ErrForm}, {group(p, []api.Term{col(0)}), api.ErrForm}, {sorted(p, 0), api.ErrForm}, {sorted(one(api.PlanDistinct, p), 0), api.ErrForm},
			{limit(one(api.PlanDistinct, p), 1), api.ErrForm}, {limit(limit(p, 1), 1), api.ErrForm}, {limit(sorted(p, 0), 1), api.ErrForm}, {two(api.PlanUnion, p, scan("t")), api.ErrForm}, {two(api.PlanUnion, scan("t"), p), api.ErrForm}, {two(api.PlanJoin, scan("t"), p, truth(1)), api.ErrForm},
			{two(api.PlanExcept, p, scan("nosuch")), api.ErrForm}, {two(api.PlanExcept, scan("nosuch"), p), api.ErrName}, {one(99, p), api.ErrForm},
		})
	}
	wantFaults(t, []bad{
		{limit(scan("t"), 1), api.ErrForm}, {limit(one(api.PlanDistinct, scan("t")), 1), api.ErrForm}, {limit(l, 1), api.ErrForm}, {limit(l, 0), api.ErrForm}, {limit(s, -1), api.ErrForm}, {limit(s, -1<<63), api.ErrForm},
		{sorted(scan("t"), 3), api.ErrRange}, {sorted(scan("t"), -1), api.ErrRange}, {sorted(scan("t"), 2, 1<<62), api.ErrRange}, {sorted(project(scan("t"), col(2)), 1), api.ErrRange}, {limit(sorted(scan("t"), 3), -1), api.ErrRange},
		{one(api.PlanDistinct, sorted(scan("t"), 3)), api.ErrForm}, {one(api.PlanDistinct, sorted(scan("nosuch"), 3)), api.ErrName}, {limit(limit(sorted(scan("t"), 3), 1), 1), api.ErrRange}, {one(api.PlanDistinct, limit(sorted(scan("t"), 3), 1)), api.ErrForm}, {limit(one(api.PlanDistinct, limit(sorted(scan("t"), 3), 1)), 1), api.ErrForm},
	})
	wantCheck(t, limit(s, 1<<63-1), ofT)
}

// P13.2: seeks are in tables with a key, and from and to values of its kind.
func TestSeeks(t *testing.T) {
	wantFaults(t, []bad{
		{seek("nosuch", num(1), num(1)), api.ErrName}, {seek("", num(1), num(1)), api.ErrName}, {seek("u", num(1), num(1)), api.ErrPlace}, {seek("t", text("x"), num(1)), api.ErrKind}, {seek("t", num(1), truth(1)), api.ErrKind}, {seek("t", null(), text("")), api.ErrKind},
		{seek("nosuch", col(0), null()), api.ErrForm}, {seek("nosuch", null(), col(0)), api.ErrForm}, {seek("nosuch", val(api.Value{Kind: 4}), null()), api.ErrName}, {seek("u", val(api.Value{Kind: 4}), null()), api.ErrPlace}, {seek("u", op(api.OpValue, null()), null()), api.ErrPlace},
		{seek("t", text("x"), op(api.OpValue, null())), api.ErrForm}, {seek("t", val(api.Value{Kind: 4}), op(api.OpValue, null())), api.ErrKind}, {seek("t", op(api.OpValue, null()), val(api.Value{Kind: 4})), api.ErrForm}, {seek("t", text(strings.Repeat("x", 65)), null()), api.ErrKind}, {seek("t", api.Term{Op: api.OpValue, Col: 1}, null()), api.ErrForm},
		{scan("nosuch"), api.ErrName}, {scan(""), api.ErrName}, {scan("T"), api.ErrName},
	})
	keyed := tables()
	keyed[2].Key = 1
	for i, c := range []struct {
		p api.Plan
		e api.Errno
	}{
		{seek("w", truth(0), truth(1)), api.OK}, {seek("w", null(), truth(1)), api.OK}, {seek("w", text("x"), null()), api.ErrKind}, {seek("w", null(), num(1)), api.ErrKind}, {seek("w", truth(2), null()), api.ErrKind},
	} {
		if _, e := plan.Check(keyed, c.p); e != c.e {
			t.Errorf("seek %d: %d, not %d", i, e, c.e)
		}
	}
}

// P13.2: conditions are of kind Bool or Null; that is asked behind a term's own errors, and of joins over the columns of both.
func TestConditions(t *testing.T) {
	for _, kind := range []int{api.PlanJoin, api.PlanLeft, api.PlanSemi, api.PlanAnti} {
		two := func(x api.Term) api.Plan { return two(kind, scan("t"), scan("u"), x) }
		wantFaults(t, []bad{
			{two(col(0)), api.ErrKind}, {two(col(1)), api.ErrKind}, {two(col(4)), api.ErrKind}, {two(col(5)), api.ErrRange}, {two(num(1)), api.ErrKind}, {two(op(api.OpEq, col(1), col(3))), api.ErrKind}, {two(api.Term{}), api.ErrForm}, {two(op(api.OpAdd, col(0))), api.ErrForm},
		})
		for _, x := range []api.Term{col(2), null(), truth(0), op(api.OpEq, col(0), col(4)), op(api.OpIsNull, col(1))} {
			if _, e := plan.Check(tables(), two(x)); e != api.OK {
				t.Errorf("%d, %s: %d", kind, tellTerm(x), e)
			}
		}
	}
	wantFaults(t, []bad{
		{choose(scan("t"), col(0)), api.ErrKind}, {choose(scan("t"), text("true")), api.ErrKind}, {choose(scan("t"), op(api.OpAdd, null(), null())), api.ErrKind}, {choose(scan("t"), col(3)), api.ErrRange}, {choose(scan("t"), op(api.OpSum, col(0))), api.ErrForm},
		{choose(two(api.PlanSemi, scan("t"), scan("u"), null()), op(api.OpIsNull, col(3))), api.ErrRange},
	})
}

// P13.2: the errors come from the inside outward, those of the left plan before those of the right one.
func TestOrderOfErrors(t *testing.T) {
	name, place, far, kind, form := scan("nosuch"), seek("u", null(), null()), project(scan("t"), col(3)), choose(scan("t"), col(0)), api.Plan{}
	l := []bad{{name, api.ErrName}, {place, api.ErrPlace}, {far, api.ErrRange}, {kind, api.ErrKind}, {form, api.ErrForm}, {two(api.PlanUnion, scan("t"), scan("u")), api.ErrCount}}
	for _, a := range l {
		wantFaults(t, []bad{a, {one(0, a.p), a.e}, {sorted(a.p, 9), a.e}, {limit(a.p, -1), a.e}, {one(api.PlanDistinct, choose(a.p, api.Term{})), a.e}, {api.Plan{Op: api.PlanScan, Table: "nosuch", Args: []api.Plan{a.p}}, a.e}, {two(api.PlanUnion, scan("t"), a.p), a.e}})
		for _, b := range l {
			wantFaults(t, []bad{
				{two(api.PlanJoin, a.p, b.p), a.e}, {two(api.PlanUnion, a.p, b.p, truth(1)), a.e}, {two(api.PlanJoin, one(api.PlanDistinct, wrapped(a.p, 9)), b.p, col(0)), a.e},
				{api.Plan{Op: api.PlanSelect, Args: []api.Plan{scan("t"), scan("t"), a.p, b.p}}, a.e},
			})
		}
	}
	wantFaults(t, []bad{
		{api.Plan{Op: api.PlanScan, Table: "nosuch", N: 1}, api.ErrForm}, {api.Plan{Op: api.PlanProject, Args: []api.Plan{scan("t")}, Terms: []api.Term{col(9)}, N: 1}, api.ErrForm}, {api.Plan{Op: api.PlanSelect, Args: []api.Plan{scan("t")}, Terms: []api.Term{col(9)}, Table: "t"}, api.ErrForm},
	})
}

// P13.2: not more than 48 plans and terms are nested: told ahead of all other errors but that of the tables.
func TestDeepPlans(t *testing.T) {
	for i, c := range []struct {
		p api.Plan
		e api.Errno
	}{
		{wrapped(scan("t"), 47), api.OK}, {wrapped(scan("t"), 48), api.ErrDeep}, {wrapped(api.Plan{}, 47), api.ErrForm}, {wrapped(api.Plan{}, 48), api.ErrDeep}, {wrapped(scan("t"), 1000), api.ErrDeep},
		{project(scan("t"), negated(col(0), 46)), api.OK}, {project(scan("t"), negated(col(0), 47)), api.ErrDeep}, {project(scan("t"), col(9), negated(api.Term{}, 47)), api.ErrDeep},
		{wrapped(project(scan("t"), negated(col(0), 6)), 40), api.OK}, {wrapped(project(scan("t"), negated(col(0), 7)), 40), api.ErrDeep},
		{group(scan("t"), nil, agg(api.OpSum, negated(col(0), 46))), api.OK}, {group(scan("t"), nil, agg(api.OpSum, negated(col(0), 47))), api.ErrDeep}, {group(scan("t"), []api.Term{negated(col(0), 47)}, agg(0)), api.ErrDeep}, {group(scan("t"), nil, agg(0), agg(0, col(9), negated(col(0), 47))), api.ErrDeep},
		{wrapped(two(api.PlanJoin, scan("t"), scan("u"), null()), 46), api.OK}, {two(api.PlanJoin, scan("nosuch"), wrapped(scan("t"), 47), null()), api.ErrDeep}, {two(api.PlanJoin, wrapped(scan("t"), 47), api.Plan{}, null()), api.ErrDeep},
		{project(scan("t"), op(api.OpValue, negated(col(0), 45))), api.ErrForm}, {project(scan("t"), op(api.OpValue, negated(col(0), 46))), api.ErrDeep}, {project(scan("t"), op(api.OpAdd, null(), negated(col(9), 46))), api.ErrDeep},
		{api.Plan{Op: api.PlanScan, Table: "t", Terms: []api.Term{negated(col(0), 47)}}, api.ErrDeep}, {api.Plan{Aggs: []api.Agg{agg(0, negated(col(0), 47))}}, api.ErrDeep}, {api.Plan{Op: api.PlanScan, Args: []api.Plan{scan("nosuch"), wrapped(scan("t"), 47)}}, api.ErrDeep},
	} {
		if l, e := plan.Check(tables(), c.p); e != c.e || e != api.OK && len(l) > 0 {
			t.Errorf("plan %d: %s, %d, not %d", i, columnsOf(l), e, c.e)
		}
	}
}

// P13.2: tables that are not valid are told ahead of everything.
func TestTables(t *testing.T) {
	for i, change := range []func(l []api.Table){
		func(l []api.Table) { l[0].Name = "u" }, func(l []api.Table) { l[0].Name = "" }, func(l []api.Table) { l[0].Name = "select" }, func(l []api.Table) { l[1].Columns = nil }, func(l []api.Table) { l[1].Columns[1].Name = "a" }, func(l []api.Table) { l[1].Columns[1].Name = "A b" },
		func(l []api.Table) { l[2].Columns[0].Kind = api.Null }, func(l []api.Table) { l[2].Columns[0].Kind = 4 }, func(l []api.Table) { l[0].Key = 1 }, func(l []api.Table) { l[0].Key = 3 }, func(l []api.Table) { l[0].Key = -2 },
		func(l []api.Table) { l[1].Columns = make([]api.Column, 9) },
	} {
		l := tables()
		change(l)
		for _, p := range []api.Plan{scan("t"), scan("w"), scan("nosuch"), {}, wrapped(scan("t"), 48)} {
			if columns, e := plan.Check(l, p); e != api.ErrArg || len(columns) > 0 {
				t.Errorf("tables %d: %s, %d", i, columnsOf(columns), e)
			}
		}
	}
	if _, e := plan.Check(nil, scan("t")); e != api.ErrName {
		t.Errorf("no tables: %d", e)
	}
	many := tables()
	for i := range 20 {
		many = append(many, api.Table{Name: "x" + strings.Repeat("y", i%16), Key: -1, Columns: []api.Column{{Name: "z" + strings.Repeat("q", i%8), Kind: api.Int}}})
	}
	if l, e := plan.Check(many[:15], scan("xyyyy")); e != api.OK || columnsOf(l) != "zqqqq int" {
		t.Errorf("many tables: %s, %d", columnsOf(l), e)
	}
}
