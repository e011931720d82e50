package rules_test

import (
	"go/parser"
	"go/token"
	"math"
	"path/filepath"
	"slices"
	"strings"
	"testing"

	"touchmark/api"
	"touchmark/mean"
	"touchmark/plan"
	"touchmark/rules"
)

// P15.1: there are 20 rules.
func TestCount(t *testing.T) {
	if n := rules.Count(); n != 20 {
		t.Error(n)
	}
}

// P15.1: leaves are total whatever is in them, and operations but those of arithmetic with the right number of total operands.
func TestQuiet(t *testing.T) {
	loud := op(api.OpNeg, col(0))
	one := []int{api.OpNot, api.OpIsNull, api.OpNotNull}
	two := []int{api.OpAnd, api.OpOr, api.OpEq, api.OpNe, api.OpLt, api.OpLe, api.OpGt, api.OpGe}
	for _, k := range append([]int{math.MinInt, math.MaxInt, -1, -api.OpEq}, numbers(60)...) {
		leaf := k == api.OpValue || k == api.OpColumn
		for n := range 5 {
			args := slices.Repeat([]api.Term{col(0)}, n)
			want := leaf || n == 1 && slices.Contains(one, k) || n == 2 && slices.Contains(two, k)
			if rules.Quiet(op(k, args...)) != want {
				t.Errorf("operation %d of %d columns: %t", k, n, !want)
			}
			for i := range args {
				for _, x := range []api.Term{loud, {}, op(api.OpAnd, col(0)), op(api.OpNot, op(api.OpEq, loud, col(0))), op(api.OpSum, col(0)), {Op: api.OpName}} {
					y := slices.Clone(args)
					y[i] = x
					if rules.Quiet(op(k, y...)) != leaf {
						t.Errorf("operation %d of %d operands, and one of them %s: %t", k, n, tellTerm(x), !leaf)
					}
				}
				for _, x := range []api.Term{val(null), val(api.Value{Kind: 9}), {Op: api.OpColumn, Col: -1, Value: yes, Args: []api.Term{loud}}, op(api.OpIsNull, val(yes)), op(api.OpAnd, op(api.OpLt, col(0), col(1)), col(2))} {
					y := slices.Clone(args)
					y[i] = x
					if rules.Quiet(op(k, y...)) != want {
						t.Errorf("operation %d of %d operands, and one of them %s: %t", k, n, tellTerm(x), !want)
					}
				}
			}
		}
	}
}

func numbers(to int) []int {
	var l []int
	for i := range to {
		l = append(l, i)
	}
	return l
}

// P15.1: what is total in a plan without errors has no error over any row.
func TestQuietHasNoErrors(t *testing.T) {
	n := 0
	for seed := range 20000 {
		m := newMaker(int64(seed))
		m.left, m.loud = pick(m, 2, 5, 12), pick(m, 0, 0, 2)
		kinds := m.kinds()
		x := m.condition(kinds, m.Intn(len(kinds)+1))
		if quiet := isTotal(bare(tellTerm(x))); rules.Quiet(x) != quiet {
			t.Fatalf("%s: %t", tellTerm(x), !quiet)
		} else if !quiet {
			continue
		}
		for range 5 {
			var r api.Row
			for _, k := range kinds {
				r = append(r, m.value(k, true))
			}
			if _, e := mean.Term(x, r); e != api.OK {
				t.Fatalf("%s over %s: %d", tellTerm(x), list(r, tellValue), e)
			}
		}
		n++
	}
	if n < 10000 || n > 19000 {
		t.Errorf("%d terms are total", n)
	}
}

// P15.2: numbers of rules and of plans that there are not.
func TestNoSuchNumber(t *testing.T) {
	p := read("select true (select true (scan t))").plan()
	for _, rule := range []int{0, 16} {
		if _, ok := rules.Apply(tables(), p, rule, 0); !ok {
			t.Errorf("rule %d", rule)
		}
		for _, at := range []int{-1, 2, 3, 4, -2, math.MinInt, math.MaxInt, 1 << 32, -1 << 32} {
			if made, ok := rules.Apply(tables(), p, rule, at); ok || !plan.Same(made, api.Plan{}) {
				t.Errorf("rule %d at %d: %s, %t", rule, at, tell(made), ok)
			}
		}
	}
	for _, rule := range []int{-1, 20, 21, 36, -16, math.MinInt, math.MaxInt, 1 << 32, 1<<32 + 16, -1 << 32} {
		if made, ok := rules.Apply(tables(), p, rule, 0); ok || !plan.Same(made, api.Plan{}) {
			t.Errorf("rule %d: %s, %t", rule, tell(made), ok)
		}
	}
}

// P15.2: plans, and lists of tables, in which plan.Check finds an error.
func TestErrors(t *testing.T) {
	good := read("select true (select true (scan t))").plan()
	for i, p := range []api.Plan{
		{}, {Op: api.PlanSelect}, {Op: 99, Args: []api.Plan{good}}, scan("nosuch"),
		read("select true (select true (scan nosuch))").plan(), read("select true (select 3 (scan t))").plan(), read("select 0 (select true (scan t))").plan(), read("select true (select (eq 0 1) (scan t))").plan(), read("select true (seek u null null)").plan(),
		read("select true (union (scan t) (scan u))").plan(), read("distinct (limit 1 (scan t))").plan(), read("select true (sort [0] (scan t))").plan(), read("sort [3] (select true (scan t))").plan(),
		{Op: api.PlanSelect, Args: []api.Plan{good, good}, Terms: good.Terms}, {Op: api.PlanSelect, Args: good.Args}, {Op: api.PlanSelect, Args: good.Args, Terms: append(good.Terms, good.Terms...)}, {Op: api.PlanSelect, Args: good.Args, Terms: good.Terms, N: 1}, {Op: api.PlanSelect, Args: good.Args, Terms: good.Terms, Table: "t"},
		two(api.PlanUnion, read("select true (scan t)").plan(), scan("nosuch")),
	} {
		wantNone(t, i, tables(), p)
	}
	for i := range tables() {
		l := tables()
		l[i].Name = "select"
		wantNone(t, 100+i, l, good)
		l = tables()
		l[i].Columns = nil
		wantNone(t, 200+i, l, good)
		l = tables()
		l[i].Key = 9
		wantNone(t, 300+i, l, good)
	}
	wantNone(t, 400, append(tables(), tables()[0]), good)
	wantNone(t, 401, nil, good)
}

// wantNone asks that no rule can be applied anywhere in a plan.
func wantNone(t *testing.T, number int, tables []api.Table, p api.Plan) {
	t.Helper()
	for rule := range 20 {
		for at := range 4 {
			if made, ok := rules.Apply(tables, p, rule, at); ok || !plan.Same(made, api.Plan{}) {
				t.Errorf("plan %d: rule %d at %d: %+v, %t", number, rule, at, made, ok)
			}
		}
	}
}

// The chapter's first paragraph: of the project, the package imports api, value and plan, and nothing else.
func TestImports(t *testing.T) {
	files, err := filepath.Glob("*.go")
	if err != nil || len(files) == 0 {
		t.Fatal(files, err)
	}
	for _, name := range files {
		if strings.HasSuffix(name, "_test.go") {
			continue
		}
		f, err := parser.ParseFile(token.NewFileSet(), name, nil, parser.ImportsOnly)
		if err != nil {
			t.Fatal(err)
		}
		for _, i := range f.Imports {
			path := strings.Trim(i.Path.Value, `"`)
			if rest, ok := strings.CutPrefix(path, "touchmark/"); ok && !strings.Contains(" api value plan ", " "+rest+" ") {
				t.Errorf("%s imports %s", name, path)
			}
		}
	}
}
