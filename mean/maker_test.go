package mean_test

import (
	"math"
	"math/rand"
	"reflect"
	"slices"
	"strconv"

	"touchmark/api"
)

// maker makes up states, and plans over them, by chance.
type maker struct {
	*rand.Rand
	state api.State
	left  int // how many more plans and terms it makes up, but for those without which nothing is whole
	spoil int // of so many terms, one is spoilt; 0: none is
}

func newMaker(seed int64) *maker {
	m := &maker{Rand: rand.New(rand.NewSource(seed))}
	for i := range 1 + m.Intn(3) {
		x := m.table("t" + strconv.Itoa(i))
		m.state.Tables, m.state.Rows = append(m.state.Tables, x), append(m.state.Rows, m.rows(x))
	}
	return m
}

func (m *maker) maybe() bool { return m.Intn(3) == 0 }

func (m *maker) may() bool { return m.left > 0 && m.Intn(3) > 0 }

func pick[T any](m *maker, l ...T) T { return l[m.Intn(len(l))] }

func (m *maker) columnKind() int { return pick(m, api.Int, api.Int, api.Text, api.Bool) }

func (m *maker) table(name string) api.Table {
	x := api.Table{Name: name, Key: -1}
	for i := range 1 + m.Intn(3) {
		x.Columns = append(x.Columns, api.Column{Name: string(rune('a' + i)), Kind: m.columnKind(), Nullable: m.maybe()})
	}
	if k := m.Intn(len(x.Columns)); !x.Columns[k].Nullable && m.maybe() {
		x.Key = k
	}
	return x
}

// value makes up a value of a kind: few different ones, so that many are equal.
func (m *maker) value(kind int, nullable bool) api.Value {
	if nullable && m.Intn(4) == 0 {
		return null
	}
	switch kind {
	case api.Int:
		if m.Intn(12) == 0 {
			return number(pick[int64](m, math.MinInt64, math.MaxInt64, math.MinInt64+1))
		}
		return number(int64(m.Intn(4) - 1))
	case api.Text:
		return letters(pick(m, "", "x", "xy", "y"))
	case api.Bool:
		return pick(m, no, yes)
	}
	return null
}

func (m *maker) rows(t api.Table) []api.Counted {
	var l []api.Counted
	var keys []api.Value
	for range m.Intn(6) {
		var r api.Row
		for _, c := range t.Columns {
			r = append(r, m.value(c.Kind, c.Nullable))
		}
		if t.Key >= 0 && slices.Contains(keys, r[t.Key]) {
			continue
		}
		for n := range 1 + m.Intn(3) {
			if n == 0 || t.Key < 0 {
				l = insert(l, r)
			}
		}
		if t.Key >= 0 {
			keys = append(keys, r[t.Key])
		}
	}
	return l
}

// term makes up a term of a kind over columns of given kinds.
func (m *maker) term(kind int, over []int) api.Term {
	m.left--
	if m.spoil > 0 && m.Intn(m.spoil) == 0 {
		if !m.maybe() {
			return m.term(m.columnKind(), over)
		}
		return pick(m, api.Term{}, col(len(over)), col(-1), op(api.OpMax, col(0)), val(api.Value{Kind: 4}), op(api.OpAdd, num(1)))
	}
	if !m.may() || kind == api.Text {
		for _, i := range m.Perm(len(over)) {
			if over[i] == kind && m.Intn(5) > 0 {
				return col(i)
			}
		}
		return val(m.value(kind, true))
	}
	if kind == api.Int {
		if m.maybe() {
			return op(api.OpNeg, m.term(api.Int, over))
		}
		return op(api.OpAdd+m.Intn(5), m.term(api.Int, over), m.term(api.Int, over))
	}
	return m.condition(over)
}

func (m *maker) condition(over []int) api.Term {
	k := m.columnKind()
	switch m.Intn(5) {
	case 0:
		return op(api.OpNot, m.term(api.Bool, over))
	case 1:
		return op(pick(m, api.OpAnd, api.OpOr), m.term(api.Bool, over), m.term(api.Bool, over))
	case 2:
		return op(pick(m, api.OpIsNull, api.OpNotNull), m.term(k, over))
	}
	return op(api.OpEq+m.Intn(6), m.term(k, over), m.term(k, over))
}

func (m *maker) agg(over []int) (api.Agg, int) {
	k := m.columnKind()
	switch m.Intn(4) {
	case 0:
		return agg(api.OpCountAll), api.Int
	case 1:
		return agg(api.OpCount, m.term(k, over)), api.Int
	case 2:
		return agg(api.OpSum, m.term(api.Int, over)), api.Int
	}
	return agg(pick(m, api.OpMin, api.OpMax), m.term(k, over)), k
}

// inner makes up a plan that can be in others, and tells its columns' kinds.
func (m *maker) inner() (api.Plan, []int) {
	m.left--
	if !m.may() {
		return m.stored()
	}
	p, kinds := m.inner()
	switch kind := api.PlanSelect + m.Intn(api.PlanDistinct-api.PlanSelect+1); kind {
	case api.PlanSelect:
		return choose(p, m.term(api.Bool, kinds)), kinds
	case api.PlanProject:
		return m.projected(p, kinds, m.kinds())
	case api.PlanJoin, api.PlanLeft, api.PlanSemi, api.PlanAnti:
		right, more := m.inner()
		all := slices.Concat(kinds, more)
		x := m.term(api.Bool, all)
		if kind == api.PlanSemi || kind == api.PlanAnti {
			all = kinds
		}
		return two(kind, p, right, x), all
	case api.PlanGroup:
		return m.grouped(p, kinds)
	case api.PlanUnion, api.PlanExcept:
		right, more := m.inner()
		if m.maybe() && m.may() {
			right, _ = m.projected(p, kinds, kinds)
		} else {
			right, _ = m.projected(right, more, kinds)
		}
		return two(kind, p, right), kinds
	}
	return one(api.PlanDistinct, p), kinds
}

// stored makes up a plan of a table's rows.
func (m *maker) stored() (api.Plan, []int) {
	x := pick(m, m.state.Tables...)
	var kinds []int
	for _, c := range x.Columns {
		kinds = append(kinds, c.Kind)
	}
	if x.Key >= 0 && m.maybe() {
		k := kinds[x.Key]
		return seek(x.Name, val(m.value(k, true)), val(m.value(k, true))), kinds
	}
	return scan(x.Name), kinds
}

func (m *maker) kinds() []int {
	l := []int{m.columnKind()}
	for m.maybe() {
		l = append(l, m.columnKind())
	}
	return l
}

// projected makes up a projection of a plan to columns of given kinds: the plan's own, where it has them.
func (m *maker) projected(p api.Plan, over, kinds []int) (api.Plan, []int) {
	p = project(p)
	for i, k := range kinds {
		if i < len(over) && over[i] == k && m.Intn(4) > 0 {
			p.Terms = append(p.Terms, col(i))
		} else {
			p.Terms = append(p.Terms, m.term(k, over))
		}
	}
	return p, kinds
}

func (m *maker) grouped(p api.Plan, over []int) (api.Plan, []int) {
	p = group(p, nil)
	var kinds []int
	for m.maybe() {
		k := m.columnKind()
		p.Terms, kinds = append(p.Terms, m.term(k, over)), append(kinds, k)
	}
	for m.maybe() || len(kinds) == 0 {
		a, k := m.agg(over)
		p.Aggs, kinds = append(p.Aggs, a), append(kinds, k)
	}
	return p, kinds
}

// plan makes up a plan that is in no other.
func (m *maker) plan() api.Plan {
	m.left = pick(m, 3, 8, 20)
	p, kinds := m.inner()
	if !m.maybe() {
		return p
	}
	p = one(api.PlanSort, p)
	for m.maybe() {
		p.Keys = append(p.Keys, api.Key{Col: m.Intn(len(kinds)), Down: m.maybe()})
	}
	if m.maybe() {
		p = limit(p, int64(m.Intn(6)))
	}
	return p
}

// change puts something else in the place of a number, a text or a list of a tree.
func change[T any](m *maker, tree T) T {
	tree = tidy(tree)
	var l []reflect.Value
	walk(reflect.ValueOf(&tree).Elem(), func(v reflect.Value) {
		switch v.Kind() {
		case reflect.Int, reflect.Int64, reflect.String, reflect.Slice:
			l = append(l, v)
		}
	})
	switch v := pick(m, l...); v.Kind() {
	case reflect.String:
		v.SetString(pick(m, "", "t0", "t1", "x"))
	case reflect.Slice:
		n := m.Intn(v.Len() + 1)
		if n < v.Len() && m.maybe() {
			v.Set(reflect.Append(v, v.Index(n)))
		} else {
			v.Set(v.Slice(0, n))
		}
	default:
		v.SetInt(int64(m.Intn(30) - 3))
	}
	return tree
}

// tidy returns a deep copy of a tree in which empty slices are nil.
func tidy[T any](tree T) T {
	return tidied(reflect.ValueOf(tree)).Interface().(T)
}

func tidied(v reflect.Value) reflect.Value {
	c := reflect.New(v.Type()).Elem()
	c.Set(v)
	switch v.Kind() {
	case reflect.Struct:
		for i := range v.NumField() {
			c.Field(i).Set(tidied(v.Field(i)))
		}
	case reflect.Slice:
		c.SetZero()
		for i := range v.Len() {
			c.Set(reflect.Append(c, tidied(v.Index(i))))
		}
	}
	return c
}

// walk calls a function with all parts of a tree.
func walk(v reflect.Value, each func(reflect.Value)) {
	each(v)
	switch v.Kind() {
	case reflect.Struct:
		for i := range v.NumField() {
			walk(v.Field(i), each)
		}
	case reflect.Slice:
		for i := range v.Len() {
			walk(v.Index(i), each)
		}
	}
}
