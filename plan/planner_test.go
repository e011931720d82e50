package plan_test

import (
	"reflect"

	"touchmark/api"
)

// ownTerm makes up a term of a kind over columns of given kinds.
func (m *maker) ownTerm(kind int, over []int) api.Term {
	m.left--
	if m.spoilt() {
		return pick(m, api.Term{}, col(len(over)), col(-1), op(api.OpMax, col(0)), val(api.Value{Kind: 4}), m.ownTerm(m.columnKind(), over), op(api.OpAdd, num(1)), api.Term{Op: api.OpColumn, Value: api.Value{N: 1}})
	}
	if !m.may() || kind == api.Text {
		for _, i := range m.Perm(len(over)) {
			if over[i] == kind && m.Intn(5) > 0 {
				return col(i)
			}
		}
		return val(m.constant(kind).Value)
	}
	if kind == api.Int {
		if m.maybe() {
			return op(api.OpNeg, m.ownTerm(api.Int, over))
		}
		return op(api.OpAdd+m.Intn(5), m.ownTerm(api.Int, over), m.ownTerm(api.Int, over))
	}
	k := m.columnKind()
	switch m.Intn(5) {
	case 0:
		return op(api.OpNot, m.ownTerm(api.Bool, over))
	case 1:
		return op(pick(m, api.OpAnd, api.OpOr), m.ownTerm(api.Bool, over), m.ownTerm(api.Bool, over))
	case 2:
		return op(pick(m, api.OpIsNull, api.OpNotNull), m.ownTerm(k, over))
	}
	return op(api.OpEq+m.Intn(6), m.ownTerm(k, over), m.ownTerm(k, over))
}

func (m *maker) ownAgg(over []int) (api.Agg, int) {
	k := m.columnKind()
	switch m.Intn(4) {
	case 0:
		return agg(api.OpCountAll), api.Int
	case 1:
		return agg(api.OpCount, m.ownTerm(k, over)), api.Int
	case 2:
		return agg(api.OpSum, m.ownTerm(api.Int, over)), api.Int
	}
	return agg(pick(m, api.OpMin, api.OpMax), m.ownTerm(k, over)), k
}

// ownPlan makes up a plan that is in others, and tells its columns' kinds.
func (m *maker) ownPlan() (api.Plan, []int) {
	m.left--
	if !m.may() {
		return m.stored()
	}
	p, kinds := m.ownPlan()
	switch kind := api.PlanSelect + m.Intn(api.PlanDistinct-api.PlanSelect+1); kind {
	case api.PlanSelect:
		return choose(p, m.ownTerm(api.Bool, kinds)), kinds
	case api.PlanProject:
		return m.projected(p, kinds, m.kinds())
	case api.PlanJoin, api.PlanLeft, api.PlanSemi, api.PlanAnti:
		right, more := m.ownPlan()
		all := append(append([]int{}, kinds...), more...)
		x := m.ownTerm(api.Bool, all)
		if kind == api.PlanSemi || kind == api.PlanAnti {
			all = kinds
		}
		return two(kind, p, right, x), all
	case api.PlanGroup:
		return m.ownGroup(p, kinds)
	case api.PlanUnion, api.PlanExcept:
		right, more := m.ownPlan()
		right, _ = m.projected(right, more, kinds)
		if m.often() {
			right, _ = m.projected(right, kinds, m.kinds())
		}
		return two(kind, p, right), kinds
	}
	return one(api.PlanDistinct, p), kinds
}

// stored makes up a plan of a table's rows.
func (m *maker) stored() (api.Plan, []int) {
	x := pick(m, m.tables...)
	var kinds []int
	for _, c := range x.Columns {
		kinds = append(kinds, c.Kind)
	}
	if x.Key >= 0 && m.maybe() || m.spoilt() {
		k := kinds[max(x.Key, 0)]
		return seek(x.Name, val(m.constant(k).Value), val(m.constant(k).Value)), kinds
	}
	if m.spoilt() {
		return scan("nosuch"), kinds
	}
	return scan(x.Name), kinds
}

func (m *maker) kinds() []int {
	l := []int{m.columnKind()}
	for m.maybe() {
		l = append(l, m.columnKind())
	}
	return l
}

// projected makes up a projection of a plan to columns of given kinds.
func (m *maker) projected(p api.Plan, over, kinds []int) (api.Plan, []int) {
	p = project(p)
	for _, k := range kinds {
		p.Terms = append(p.Terms, m.ownTerm(k, over))
	}
	return p, kinds
}

func (m *maker) ownGroup(p api.Plan, over []int) (api.Plan, []int) {
	p = group(p, nil)
	var kinds []int
	for m.maybe() {
		k := m.columnKind()
		p.Terms, kinds = append(p.Terms, m.ownTerm(k, over)), append(kinds, k)
	}
	for m.maybe() || len(kinds) == 0 {
		a, k := m.ownAgg(over)
		p.Aggs, kinds = append(p.Aggs, a), append(kinds, k)
	}
	return p, kinds
}

// wholePlan makes up a plan that is in no other.
func (m *maker) wholePlan() api.Plan {
	m.left = pick(m, 3, 10, 30)
	p, kinds := m.ownPlan()
	if !m.maybe() {
		return p
	}
	p = one(api.PlanSort, p)
	for m.maybe() {
		p.Keys = append(p.Keys, api.Key{Col: m.Intn(len(kinds)), Down: m.maybe()})
	}
	if m.maybe() {
		p = limit(p, int64(m.Intn(4)))
	}
	return p
}

// change puts something else in the place of a number, a text or a list of a tree.
func change[T any](m *maker, tree T) T {
	tree = tidy(tree)
	var l []reflect.Value
	walk(reflect.ValueOf(&tree).Elem(), func(part any) {
		switch v := reflect.ValueOf(part).Elem(); v.Kind() {
		case reflect.Int, reflect.Int64, reflect.String, reflect.Slice:
			l = append(l, v)
		}
	})
	switch v := pick(m, l...); v.Kind() {
	case reflect.String:
		v.SetString(pick(m, "", "t0", "t1", "x"))
	case reflect.Slice:
		n := m.Intn(v.Len() + 1)
		if n < v.Len() && m.maybe() {
			v.Set(reflect.Append(v, v.Index(n)))
		} else {
			v.Set(v.Slice(0, n))
		}
	default:
		v.SetInt(int64(m.Intn(30) - 3))
	}
	return tree
}
