package plan_test

import (
	"reflect"
	"slices"

	"touchmark/api"
	"touchmark/names"
	"touchmark/value"
)

// The models are the chapter's words, one after the other: what is wrong ends them by a panic with the error's number.

func require(ok bool, e api.Errno) {
	if !ok {
		panic(e)
	}
}

// first returns the error with which a function ends, or OK.
func first(f func()) (e api.Errno) {
	defer func() {
		if x := recover(); x != nil {
			e = x.(api.Errno)
		}
	}()
	f()
	return api.OK
}

// depth returns how many plans and terms are nested in one another at most.
func depth(v reflect.Value) int {
	deepest := 0
	switch v.Kind() {
	case reflect.Struct:
		for i := range v.NumField() {
			deepest = max(deepest, depth(v.Field(i)))
		}
	case reflect.Slice:
		for i := range v.Len() {
			deepest = max(deepest, depth(v.Index(i)))
		}
	}
	switch v.Interface().(type) {
	case api.Plan, api.Term:
		deepest++
	}
	return deepest
}

func modelLower(t []api.Table, q api.Query) (p api.Plan, e api.Errno) {
	e = first(func() {
		_, e := names.Query(t, q)
		require(e == api.OK, e)
		made := lowerModel{t}.query(q)
		require(depth(reflect.ValueOf(made)) <= 48, api.ErrDeep)
		p = made
	})
	return p, e
}

// lowerModel has the columns' names of a query from package names, and the columns' numbers in its scopes.
type lowerModel struct{ tables []api.Table }

// visible is a column of a scope, and its number.
type visible struct {
	source string
	api.Column
	number int
}

func sourceName(s api.Source) string {
	if s.As != "" {
		return s.As
	}
	return s.Table
}

func (m lowerModel) columns(s api.Source) []api.Column {
	if s.Table == "" {
		l, _ := names.Query(m.tables, s.Query[0])
		return l
	}
	for _, x := range m.tables {
		if x.Name == s.Table {
			return x.Columns
		}
	}
	return nil
}

func (m lowerModel) query(q api.Query) api.Plan {
	var p api.Plan
	switch q.Op {
	case api.QuerySelect:
		p = m.selects(q.Select)
	case api.QueryUnion:
		p = two(api.PlanUnion, m.query(q.Parts[0]), m.query(q.Parts[1]))
	case api.QueryExcept:
		p = two(api.PlanExcept, m.query(q.Parts[0]), m.query(q.Parts[1]))
	}
	if len(q.Order) > 0 {
		p = one(api.PlanSort, p)
		bare := q
		bare.Order, bare.Limited, bare.Limit = nil, false, 0
		l, _ := names.Query(m.tables, bare)
		for _, o := range q.Order {
			i := slices.IndexFunc(l, func(c api.Column) bool { return c.Name == o.Expr.Name })
			p.Keys = append(p.Keys, api.Key{Col: i, Down: o.Down})
		}
	}
	if q.Limited {
		p = limit(p, q.Limit)
	}
	return p
}

func (m lowerModel) sources(from []api.Source) (api.Plan, []visible) {
	var whole api.Plan
	var all []visible
	for i, s := range from {
		p := scan(s.Table)
		if s.Table == "" {
			p = m.query(s.Query[0])
		}
		for _, c := range m.columns(s) {
			all = append(all, visible{sourceName(s), c, len(all)})
		}
		switch {
		case i == 0:
			whole = p
		case s.Kind == api.SourceJoin:
			whole = two(api.PlanJoin, whole, p, termOf(s.On[0], all))
		default:
			whole = two(api.PlanLeft, whole, p, termOf(s.On[0], all))
		}
	}
	return whole, all
}

func termOf(x api.Expr, scopes ...[]visible) api.Term {
	if x.Op == api.OpValue {
		return val(x.Value)
	}
	if x.Op != api.OpName {
		t := api.Term{Op: x.Op}
		for _, a := range x.Args {
			t.Args = append(t.Args, termOf(a, scopes...))
		}
		return t
	}
	for _, scope := range scopes {
		for _, c := range scope {
			if c.Name == x.Name && (x.Table == "" || x.Table == c.source) {
				return col(c.number)
			}
		}
	}
	panic("a name without a column")
}

// split returns the conjuncts of a condition: those with a query apart.
func split(x api.Expr) (plain, asking []api.Expr) {
	switch x.Op {
	case api.OpAnd:
		a, b := split(x.Args[0])
		c, d := split(x.Args[1])
		return append(a, c...), append(b, d...)
	case api.OpExists, api.OpNotExists, api.OpIn, api.OpNotIn:
		return nil, []api.Expr{x}
	}
	return []api.Expr{x}, nil
}

func (m lowerModel) where(p api.Plan, w api.Expr, all []visible) api.Plan {
	plain, asking := split(w)
	for i, x := range plain {
		if i == 0 {
			p = choose(p, termOf(x, all))
		} else {
			p.Terms[0] = op(api.OpAnd, p.Terms[0], termOf(x, all))
		}
	}
	for _, x := range asking {
		s := x.Query[0].Select
		right, inner := m.sources(s.From)
		for i := range inner {
			inner[i].number += len(all)
		}
		var c api.Term
		if len(x.Args) > 0 {
			c = op(api.OpEq, termOf(x.Args[0], all), termOf(s.Items[0].Expr, inner, all))
		}
		kind := api.PlanSemi
		switch x.Op {
		case api.OpNotExists:
			kind = api.PlanAnti
		case api.OpNotIn:
			kind, c = api.PlanAnti, op(api.OpOr, op(api.OpIsNull, c), c)
		}
		switch {
		case len(s.Where) == 0 && len(x.Args) == 0:
			c = truth(1)
		case len(x.Args) == 0:
			c = termOf(s.Where[0], inner, all)
		case len(s.Where) > 0:
			c = op(api.OpAnd, c, termOf(s.Where[0], inner, all))
		}
		p = two(kind, p, right, c)
	}
	return p
}

func sums(x api.Expr) bool {
	return x.Op >= api.OpCountAll && x.Op <= api.OpMax || slices.ContainsFunc(x.Args, sums)
}

func (m lowerModel) selects(s api.Select) api.Plan {
	p, all := m.sources(s.From)
	for _, w := range s.Where {
		p = m.where(p, w, all)
	}
	if len(s.Group)+len(s.Having) > 0 || slices.ContainsFunc(s.Items, func(i api.Item) bool { return sums(i.Expr) }) {
		p = grouped(s, p, all)
	} else {
		p = project(p)
		for _, i := range s.Items {
			if !i.Star {
				p.Terms = append(p.Terms, termOf(i.Expr, all))
				continue
			}
			for n := range all {
				p.Terms = append(p.Terms, col(n))
			}
		}
	}
	if s.Distinct {
		p = one(api.PlanDistinct, p)
	}
	return p
}

// grouped first collects the aggregates, and then counts them again where they stand.
func grouped(s api.Select, p api.Plan, all []visible) api.Plan {
	p = group(p, nil)
	for _, x := range s.Group {
		p.Terms = append(p.Terms, termOf(x, all))
	}
	examined := []api.Expr{}
	for _, i := range s.Items {
		examined = append(examined, i.Expr)
	}
	examined = append(examined, s.Having...)
	for _, x := range examined {
		for _, a := range aggregates(x, s.Group) {
			p.Aggs = append(p.Aggs, agg(a.Op))
			for _, y := range a.Args {
				last := &p.Aggs[len(p.Aggs)-1]
				last.Args = append(last.Args, termOf(y, all))
			}
		}
	}
	next := len(s.Group)
	var terms []api.Term
	for _, x := range examined {
		terms = append(terms, overGroup(x, s.Group, &next))
	}
	if len(s.Having) > 0 {
		p = choose(p, terms[len(terms)-1])
	}
	return project(p, terms[:len(s.Items)]...)
}

func isOneOf(x api.Expr, group []api.Expr) int {
	return slices.IndexFunc(group, func(g api.Expr) bool { return reflect.DeepEqual(tidy(g), tidy(x)) })
}

func aggregates(x api.Expr, group []api.Expr) []api.Expr {
	if isOneOf(x, group) >= 0 {
		return nil
	}
	if x.Op >= api.OpCountAll && x.Op <= api.OpMax {
		return []api.Expr{x}
	}
	var l []api.Expr
	for _, a := range x.Args {
		l = append(l, aggregates(a, group)...)
	}
	return l
}

func overGroup(x api.Expr, group []api.Expr, next *int) api.Term {
	if i := isOneOf(x, group); i >= 0 {
		return col(i)
	}
	if x.Op >= api.OpCountAll && x.Op <= api.OpMax {
		*next++
		return col(*next - 1)
	}
	t := api.Term{Op: x.Op, Value: x.Value}
	for _, a := range x.Args {
		t.Args = append(t.Args, overGroup(a, group, next))
	}
	return t
}

func modelCheck(t []api.Table, p api.Plan) (l []api.Column, e api.Errno) {
	e = first(func() {
		_, e := names.Query(t, api.Query{Op: api.QuerySelect, Select: api.Select{Items: []api.Item{{Expr: api.Expr{Op: api.OpValue}}}, From: []api.Source{{Table: "nosuch"}}}})
		require(e != api.ErrArg, e)
		require(depth(reflect.ValueOf(p)) <= 48, api.ErrDeep)
		l = checkModel{t}.plan(p)
	})
	return l, e
}

type checkModel struct{ tables []api.Table }

// plan returns the columns of a plan, given the kinds of the plans around it.
func (m checkModel) plan(p api.Plan, around ...int) []api.Column {
	var args [][]api.Column
	var all []api.Column
	for _, a := range p.Args {
		args = append(args, m.plan(a, append(slices.Clone(around), p.Op)...))
		all = append(all, args[len(args)-1]...)
	}
	require(hasForm(p), api.ErrForm)
	if p.Op == api.PlanSort || p.Op == api.PlanLimit {
		for _, o := range around {
			require(o == api.PlanLimit, api.ErrForm)
		}
	}
	switch p.Op {
	case api.PlanScan, api.PlanSeek:
		return m.stored(p)
	case api.PlanSelect, api.PlanJoin, api.PlanLeft, api.PlanSemi, api.PlanAnti:
		k, _ := kindOf(p.Terms[0], all)
		require(k == api.Bool || k == api.Null, api.ErrKind)
		if p.Op == api.PlanLeft {
			for i := len(args[0]); i < len(all); i++ {
				all[i].Nullable = true
			}
		}
		if p.Op == api.PlanJoin || p.Op == api.PlanLeft {
			return all
		}
	case api.PlanProject, api.PlanGroup:
		var l []api.Column
		for _, x := range p.Terms {
			k, n := kindOf(x, all)
			l = append(l, api.Column{Kind: k, Nullable: n})
		}
		for _, a := range p.Aggs {
			l = append(l, aggOf(a, all))
		}
		return l
	case api.PlanUnion, api.PlanExcept:
		require(len(args[0]) == len(args[1]), api.ErrCount)
		for i, a := range args[0] {
			b := args[1][i]
			require(a.Kind == b.Kind || a.Kind == 0 || b.Kind == 0, api.ErrKind)
			args[0][i] = api.Column{Name: a.Name, Kind: max(a.Kind, b.Kind), Nullable: a.Nullable || b.Nullable}
		}
	case api.PlanSort:
		for _, k := range p.Keys {
			require(k.Col >= 0 && k.Col < len(all), api.ErrRange)
		}
	}
	return args[0]
}

// hasForm takes the parts away that a plan must have: nothing must be left.
func hasForm(p api.Plan) bool {
	rest := api.Plan{Table: p.Table, Terms: p.Terms, Aggs: p.Aggs, Keys: p.Keys, N: p.N}
	args, ok := 1, true
	switch p.Op {
	case api.PlanScan:
		args, rest.Table = 0, ""
	case api.PlanSeek:
		ok = len(p.Terms) == 2 && p.Terms[0].Op == api.OpValue && p.Terms[1].Op == api.OpValue
		args, rest.Table, rest.Terms = 0, "", nil
	case api.PlanSelect:
		ok, rest.Terms = len(p.Terms) == 1, nil
	case api.PlanProject:
		ok, rest.Terms = len(p.Terms) >= 1, nil
	case api.PlanJoin, api.PlanLeft, api.PlanSemi, api.PlanAnti:
		args, ok, rest.Terms = 2, len(p.Terms) == 1, nil
	case api.PlanGroup:
		ok, rest.Terms, rest.Aggs = len(p.Terms) > 0 || len(p.Aggs) > 0, nil, nil
	case api.PlanUnion, api.PlanExcept:
		args = 2
	case api.PlanDistinct:
	case api.PlanSort:
		rest.Keys = nil
	case api.PlanLimit:
		ok, rest.N = p.N >= 0 && len(p.Args) == 1 && p.Args[0].Op == api.PlanSort, 0
	default:
		return false
	}
	return ok && len(p.Args) == args && reflect.DeepEqual(tidy(rest), api.Plan{})
}

func (m checkModel) stored(p api.Plan) []api.Column {
	for _, x := range m.tables {
		if x.Name != p.Table {
			continue
		}
		if p.Op == api.PlanSeek {
			require(x.Key >= 0, api.ErrPlace)
			a, _ := kindOf(p.Terms[0], nil)
			b, _ := kindOf(p.Terms[1], nil)
			for _, k := range []int{a, b} {
				require(k == api.Null || k == x.Columns[x.Key].Kind, api.ErrKind)
			}
		}
		return slices.Clone(x.Columns)
	}
	panic(api.ErrName)
}

func kindOf(t api.Term, over []api.Column) (int, bool) {
	bare := api.Term{Op: t.Op}
	switch t.Op {
	case api.OpValue:
		bare.Value = t.Value
		require(reflect.DeepEqual(tidy(t), bare), api.ErrForm)
		require(value.May(t.Value), api.ErrKind)
		return t.Value.Kind, t.Value.Kind == api.Null
	case api.OpColumn:
		bare.Col = t.Col
		require(reflect.DeepEqual(tidy(t), bare), api.ErrForm)
		require(t.Col >= 0 && t.Col < len(over), api.ErrRange)
		return over[t.Col].Kind, over[t.Col].Nullable
	}
	kinds, nullable := []int{}, false
	for _, a := range t.Args {
		k, n := kindOf(a, over)
		kinds, nullable = append(kinds, k), nullable || n
	}
	t.Args = nil
	require(reflect.DeepEqual(t, bare), api.ErrForm)
	switch t.Op {
	case api.OpNeg, api.OpNot, api.OpIsNull, api.OpNotNull:
		require(len(kinds) == 1, api.ErrForm)
		kinds = append(kinds, 0)
	case api.OpAdd, api.OpSub, api.OpMul, api.OpDiv, api.OpRem, api.OpEq, api.OpNe, api.OpLt, api.OpLe, api.OpGt, api.OpGe, api.OpAnd, api.OpOr:
		require(len(kinds) == 2, api.ErrForm)
	default:
		panic(api.ErrForm)
	}
	k, e := value.Result(t.Op, kinds[0], kinds[1])
	require(e == api.OK, e)
	return k, nullable && t.Op != api.OpIsNull && t.Op != api.OpNotNull
}

func aggOf(a api.Agg, over []api.Column) api.Column {
	kinds := []int{}
	for _, x := range a.Args {
		k, _ := kindOf(x, over)
		kinds = append(kinds, k)
	}
	switch a.Op {
	case api.OpCountAll:
		require(len(kinds) == 0, api.ErrForm)
		return api.Column{Kind: api.Int}
	case api.OpCount, api.OpSum, api.OpMin, api.OpMax:
		require(len(kinds) == 1, api.ErrForm)
	default:
		panic(api.ErrForm)
	}
	k, e := value.Result(a.Op, kinds[0], 0)
	require(e == api.OK, e)
	return api.Column{Kind: k, Nullable: a.Op != api.OpCount}
}

// tidy returns a deep copy of a tree in which empty slices are nil.
func tidy[T any](tree T) T {
	return tidied(reflect.ValueOf(tree)).Interface().(T)
}

func tidied(v reflect.Value) reflect.Value {
	c := reflect.New(v.Type()).Elem()
	c.Set(v)
	switch v.Kind() {
	case reflect.Struct:
		for i := range v.NumField() {
			c.Field(i).Set(tidied(v.Field(i)))
		}
	case reflect.Slice:
		c.SetZero()
		for i := range v.Len() {
			c.Set(reflect.Append(c, tidied(v.Index(i))))
		}
	}
	return c
}

// walk calls a function with the addresses of all parts of a tree.
func walk(v reflect.Value, each func(part any)) {
	each(v.Addr().Interface())
	switch v.Kind() {
	case reflect.Struct:
		for i := range v.NumField() {
			walk(v.Field(i), each)
		}
	case reflect.Slice:
		for i := range v.Len() {
			walk(v.Index(i), each)
		}
	}
}
