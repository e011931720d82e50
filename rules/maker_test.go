package rules_test

import (
	"math"
	"math/rand"
	"reflect"
	"slices"
	"strconv"

	"touchmark/api"
	"touchmark/value"
)

// maker makes up states, and plans over them, by chance: such that rules often apply, or nearly.
type maker struct {
	*rand.Rand
	state api.State
	left  int  // how many more plans and terms it makes up, but for those without which nothing is whole
	split bool // the next condition has several conjuncts
	loud  int  // of so many terms of integers, one can have an error; 0: none can. It is another number for each plan
}

func newMaker(seed int64) *maker {
	m := &maker{Rand: rand.New(rand.NewSource(seed))}
	for i := range 1 + m.Intn(3) {
		x := m.table("t" + strconv.Itoa(i))
		m.state.Tables, m.state.Rows = append(m.state.Tables, x), append(m.state.Rows, m.rows(x))
	}
	return m
}

func (m *maker) maybe() bool { return m.Intn(3) == 0 }

func (m *maker) may() bool { return m.left > 0 && m.Intn(3) > 0 }

func pick[T any](m *maker, l ...T) T { return l[m.Intn(len(l))] }

func (m *maker) columnKind() int { return pick(m, api.Int, api.Int, api.Text, api.Bool) }

func (m *maker) table(name string) api.Table {
	x := api.Table{Name: name, Key: -1}
	for i := range 1 + m.Intn(3) {
		x.Columns = append(x.Columns, api.Column{Name: string(rune('a' + i)), Kind: m.columnKind(), Nullable: m.maybe()})
	}
	if k := m.Intn(len(x.Columns)); !x.Columns[k].Nullable {
		x.Key = k
	}
	return x
}

// value makes up a value of a kind: few different ones, so that many are equal.
func (m *maker) value(kind int, nullable bool) api.Value {
	if nullable && m.Intn(4) == 0 {
		return null
	}
	switch kind {
	case api.Int:
		if m.Intn(12) == 0 {
			return number(pick[int64](m, math.MinInt64, math.MaxInt64, math.MinInt64+1))
		}
		return number(int64(m.Intn(4) - 1))
	case api.Text:
		return letters(pick(m, "", "x", "xy", "y"))
	case api.Bool:
		return pick(m, no, yes)
	}
	return null
}

func (m *maker) rows(t api.Table) []api.Counted {
	var l []api.Counted
	var keys []api.Value
	for range m.Intn(8) {
		var r api.Row
		for _, c := range t.Columns {
			r = append(r, m.value(c.Kind, c.Nullable))
		}
		if t.Key >= 0 && slices.Contains(keys, r[t.Key]) {
			continue
		}
		for n := range 1 + m.Intn(3) {
			if n == 0 || t.Key < 0 {
				l = insert(l, r)
			}
		}
		if t.Key >= 0 {
			keys = append(keys, r[t.Key])
		}
	}
	return l
}

// insert puts one more row into a table's rows.
func insert(l []api.Counted, r api.Row) []api.Counted {
	i, ok := slices.BinarySearchFunc(l, r, func(a api.Counted, r api.Row) int { return value.CompareRows(a.Row, r) })
	if ok {
		l[i].Count++
		return l
	}
	return slices.Insert(l, i, api.Counted{Row: r, Count: 1})
}

// term makes up a term of a kind over columns of given kinds; those of the kind -1 are out of its reach.
func (m *maker) term(kind int, over []int) api.Term {
	m.left--
	if m.Intn(15) == 0 {
		over = nil // what can be computed ahead
	}
	if kind == api.Int && m.loud > 0 && m.left > 0 && m.Intn(m.loud) == 0 {
		if m.maybe() {
			return op(api.OpNeg, m.term(api.Int, over))
		}
		return op(api.OpAdd+m.Intn(5), m.term(api.Int, over), m.term(api.Int, over))
	}
	if kind == api.Bool && m.may() {
		return m.logic(over)
	}
	for _, i := range m.Perm(len(over)) {
		if over[i] == kind && m.Intn(5) > 0 {
			return col(i)
		}
	}
	return val(m.value(kind, m.maybe()))
}

func (m *maker) logic(over []int) api.Term {
	k := m.columnKind()
	switch m.Intn(6) {
	case 0:
		return op(api.OpNot, m.term(api.Bool, over))
	case 1, 2:
		return op(pick(m, api.OpAnd, api.OpAnd, api.OpOr), m.term(api.Bool, over), m.term(api.Bool, over))
	case 3:
		return op(pick(m, api.OpIsNull, api.OpNotNull), m.term(k, over))
	}
	return op(api.OpEq+m.Intn(6), m.term(k, over), m.term(k, over))
}

// condition makes up a term of conjuncts, many of them over the columns ahead of one, or from it on.
func (m *maker) condition(over []int, from int) api.Term {
	m.left--
	left, right := slices.Clone(over), slices.Clone(over)
	for i := range over {
		if i < from {
			right[i] = -1
		} else {
			left[i] = -1
		}
	}
	i := m.Intn(len(over))
	if from < len(over) && m.maybe() {
		i = from
	}
	if m.split {
		m.split = false
		return op(api.OpAnd, m.condition(over, from), m.condition(over, from))
	}
	if m.loud > 0 && m.left > 0 && m.Intn(4) == 0 {
		return op(api.OpEq+m.Intn(6), op(api.OpAdd+m.Intn(5), m.term(api.Int, over), m.term(api.Int, over)), m.term(api.Int, over))
	}
	switch m.Intn(16) {
	case 0, 1, 2:
		return op(api.OpAnd, m.condition(over, from), m.condition(over, from))
	case 3, 4:
		return m.term(api.Bool, left)
	case 5, 6:
		return m.term(api.Bool, right)
	case 7:
		return op(api.OpEq+m.Intn(6), col(i), m.term(over[i], over))
	case 8:
		return op(api.OpEq+m.Intn(6), m.term(over[i], over), col(i))
	case 9:
		return op(api.OpNotNull, col(i))
	case 10, 11, 12, 13:
		return op(api.OpEq+m.Intn(6), col(i), val(m.value(over[i], m.maybe())))
	case 14:
		return pick(m, val(yes), op(api.OpOr, val(yes), m.term(api.Bool, over)))
	}
	return m.logic(over)
}

func (m *maker) agg(over []int) (api.Agg, int) {
	k := m.columnKind()
	switch m.Intn(5) {
	case 0:
		return agg(api.OpCountAll), api.Int
	case 1, 2:
		return agg(api.OpCount, m.term(k, over)), api.Int
	case 3:
		if m.loud > 0 {
			return agg(api.OpSum, m.term(api.Int, over)), api.Int
		}
	}
	return agg(pick(m, api.OpMin, api.OpMax), m.term(k, over)), k
}

func agg(op int, args ...api.Term) api.Agg { return api.Agg{Op: op, Args: args} }

// one is a plan with one other in it, two one with two.
func one(op int, p api.Plan, terms ...api.Term) api.Plan {
	return api.Plan{Op: op, Args: []api.Plan{p}, Terms: terms}
}

func two(op int, a, b api.Plan, terms ...api.Term) api.Plan {
	return api.Plan{Op: op, Args: []api.Plan{a, b}, Terms: terms}
}

func scan(t string) api.Plan { return api.Plan{Op: api.PlanScan, Table: t} }

// made is a plan, its columns' kinds, and the number of the first column that is a right plan's or an aggregate function's.
type made struct {
	api.Plan
	kinds []int
	from  int
}

// inner makes up a plan that can be in others.
func (m *maker) inner() made {
	m.left--
	if !m.may() {
		return m.stored()
	}
	return m.around(m.kind(), m.inner())
}

// shape returns the kinds of plans to which a rule may apply, from the outside inward.
func (m *maker) shape(rule int) []int {
	inner := map[int][]int{
		0: {api.PlanSelect}, 2: {api.PlanProject}, 3: {api.PlanJoin}, 9: {api.PlanLeft}, 10: {api.PlanLeft}, 11: {api.PlanUnion, api.PlanExcept}, 12: {api.PlanDistinct}, 13: {api.PlanGroup}, 17: {api.PlanSemi, api.PlanAnti}, 18: {api.PlanScan},
	}
	switch rule {
	case 4, 5, 6, 7:
		return []int{api.PlanJoin}
	case 8:
		return []int{api.PlanJoin, api.PlanJoin}
	case 14:
		return []int{api.PlanProject, api.PlanProject}
	case 15:
		return []int{api.PlanDistinct, pick(m, api.PlanDistinct, api.PlanGroup)}
	case 19:
		return []int{m.kind()}
	}
	if inner[rule] == nil {
		return []int{api.PlanSelect}
	}
	return []int{api.PlanSelect, pick(m, inner[rule]...)}
}

// kind returns a kind of plans that have others in them, and can be in others.
func (m *maker) kind() int { return api.PlanSelect + m.Intn(api.PlanDistinct-api.PlanSelect+1) }

// around makes up a plan of a kind around another one.
func (m *maker) around(kind int, x made) made {
	m.loud = pick(m, 0, 0, 1, 2)
	switch kind {
	case api.PlanSelect:
		return made{one(kind, x.Plan, m.condition(x.kinds, x.from)), x.kinds, x.from}
	case api.PlanScan:
		return m.stored()
	case api.PlanProject:
		return m.projected(x, m.kinds())
	case api.PlanGroup:
		return m.grouped(x)
	case api.PlanDistinct:
		return made{one(kind, x.Plan), x.kinds, x.from}
	case api.PlanUnion, api.PlanExcept:
		y := x
		if m.maybe() {
			y = m.inner()
		}
		return made{two(kind, x.Plan, m.projected(y, x.kinds).Plan), x.kinds, x.from}
	}
	return m.joined(kind, x)
}

func (m *maker) joined(kind int, left made) made {
	split := m.split
	m.split = false
	right := m.inner()
	m.split = split
	all := slices.Concat(left.kinds, right.kinds)
	x := m.condition(all, len(left.kinds))
	if kind == api.PlanSemi || kind == api.PlanAnti {
		all = left.kinds
	}
	return made{two(kind, left.Plan, right.Plan, x), all, len(left.kinds)}
}

// stored makes up a plan of a table's rows.
func (m *maker) stored() made {
	x := pick(m, m.state.Tables...)
	p := made{Plan: scan(x.Name), from: max(x.Key, 0)}
	for _, c := range x.Columns {
		p.kinds = append(p.kinds, c.Kind)
	}
	if x.Key >= 0 && m.Intn(6) == 0 {
		k := p.kinds[x.Key]
		p.Op, p.Terms = api.PlanSeek, []api.Term{val(m.value(k, true)), val(m.value(k, true))}
	}
	return p
}

func (m *maker) kinds() []int {
	l := []int{m.columnKind()}
	for m.maybe() {
		l = append(l, m.columnKind())
	}
	return l
}

// projected makes up a projection of a plan to columns of given kinds: the plan's own, where it has them.
func (m *maker) projected(x made, kinds []int) made {
	p := one(api.PlanProject, x.Plan)
	for i, k := range kinds {
		if i < len(x.kinds) && x.kinds[i] == k && m.Intn(4) > 0 {
			p.Terms = append(p.Terms, col(i))
		} else {
			p.Terms = append(p.Terms, m.term(k, x.kinds))
		}
	}
	return made{p, kinds, m.Intn(len(kinds) + 1)}
}

func (m *maker) grouped(x made) made {
	p := made{Plan: one(api.PlanGroup, x.Plan)}
	for m.Intn(3) > 0 {
		k := m.columnKind()
		p.Terms, p.kinds = append(p.Terms, m.term(k, x.kinds)), append(p.kinds, k)
	}
	p.from = len(p.kinds)
	for m.maybe() || len(p.kinds) == 0 {
		a, k := m.agg(x.kinds)
		p.Aggs, p.kinds = append(p.Aggs, a), append(p.kinds, k)
	}
	return p
}

// failing puts around a plan one with all its rows, and with an error if there is a 0 in them.
func (m *maker) failing(x made) api.Plan {
	quotient := op(api.OpDiv, val(number(1)), m.term(api.Int, x.kinds))
	return one(api.PlanSelect, x.Plan, op(api.OpOr, val(yes), op(api.OpIsNull, quotient)))
}

// plan makes up a plan that is in no other, and to the outermost plans of which a rule may apply.
func (m *maker) plan(rule int) api.Plan {
	m.left = pick(m, 1, 5, 10)
	x := m.inner()
	if m.Intn(4) == 0 {
		x.Plan = m.failing(x)
	}
	shape := m.shape(rule)
	for i := range shape {
		m.left, m.split = 8, i == len(shape)-1 && slices.Contains([]int{1, 4, 5, 6, 18}, rule)
		x = m.around(shape[len(shape)-1-i], x)
	}
	m.left = 3
	switch m.Intn(6) {
	case 0:
		x = m.around(m.kind(), x)
	case 1:
		x.Plan = m.failing(x)
	}
	p := x.Plan
	if m.Intn(4) > 0 {
		return p
	}
	p = one(api.PlanSort, p)
	for m.maybe() {
		p.Keys = append(p.Keys, api.Key{Col: m.Intn(len(x.kinds)), Down: m.maybe()})
	}
	if m.maybe() {
		p = api.Plan{Op: api.PlanLimit, Args: []api.Plan{p}, N: int64(m.Intn(6))}
	}
	return p
}

// change puts something else in the place of a number, a text or a list of a tree.
func change[T any](m *maker, tree T) T {
	tree = tidy(tree)
	var l []reflect.Value
	walk(reflect.ValueOf(&tree).Elem(), func(v reflect.Value) {
		switch v.Kind() {
		case reflect.Int, reflect.Int64, reflect.String, reflect.Slice:
			l = append(l, v)
		}
	})
	switch v := pick(m, l...); v.Kind() {
	case reflect.String:
		v.SetString(pick(m, "", "t0", "t1", "x"))
	case reflect.Slice:
		n := m.Intn(v.Len() + 1)
		if n < v.Len() && m.maybe() {
			v.Set(reflect.Append(v, v.Index(n)))
		} else {
			v.Set(v.Slice(0, n))
		}
	default:
		v.SetInt(int64(m.Intn(30) - 3))
	}
	return tree
}

// tidy returns a deep copy of a tree in which empty slices are nil.
func tidy[T any](tree T) T {
	return tidied(reflect.ValueOf(tree)).Interface().(T)
}

func tidied(v reflect.Value) reflect.Value {
	c := reflect.New(v.Type()).Elem()
	c.Set(v)
	switch v.Kind() {
	case reflect.Struct:
		for i := range v.NumField() {
			c.Field(i).Set(tidied(v.Field(i)))
		}
	case reflect.Slice:
		c.SetZero()
		for i := range v.Len() {
			c.Set(reflect.Append(c, tidied(v.Index(i))))
		}
	}
	return c
}

// walk calls a function with all parts of a tree.
func walk(v reflect.Value, each func(reflect.Value)) {
	each(v)
	switch v.Kind() {
	case reflect.Struct:
		for i := range v.NumField() {
			walk(v.Field(i), each)
		}
	case reflect.Slice:
		for i := range v.Len() {
			walk(v.Index(i), each)
		}
	}
}
