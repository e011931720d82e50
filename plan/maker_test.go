package plan_test

import (
	"math/rand"
	"reflect"
	"strconv"

	"touchmark/api"
)

// maker makes up tables, and queries and plans over them, by chance: most of their parts have no error, some have.
type maker struct {
	*rand.Rand
	tables []api.Table
	left   int // how many more expressions and queries it makes up, but for those without which nothing is whole
	spoil  int // of so many parts, one is spoilt; 0: none is
}

func newMaker(seed int64) *maker {
	m := &maker{Rand: rand.New(rand.NewSource(seed))}
	for i := range 1 + m.Intn(5) {
		m.tables = append(m.tables, m.table("t"+strconv.Itoa(i)))
	}
	return m
}

func (m *maker) maybe() bool { return m.Intn(3) == 0 }

func (m *maker) spoilt() bool { return m.spoil > 0 && m.Intn(m.spoil) == 0 }

// often is for parts that are rare, and seldom whole otherwise.
func (m *maker) often() bool { return m.spoil > 0 && m.Intn(8) == 0 }

func (m *maker) may() bool { return m.left > 0 && m.Intn(3) > 0 }

func pick[T any](m *maker, l ...T) T { return l[m.Intn(len(l))] }

func (m *maker) columnName() string { return pick(m, "a", "b", "c", "d", "e", "f", "g", "h") }

func (m *maker) columnKind() int { return pick(m, api.Int, api.Int, api.Text, api.Bool) }

func (m *maker) table(name string) api.Table {
	x := api.Table{Name: name, Key: -1}
	for _, i := range m.Perm(8)[:1+m.Intn(4)] {
		x.Columns = append(x.Columns, api.Column{Name: string(rune('a' + i)), Kind: m.columnKind(), Nullable: m.maybe()})
	}
	if k := m.Intn(len(x.Columns)); !x.Columns[k].Nullable {
		x.Key = k
	}
	return x
}

// sight is what expressions that are made up can be made of.
type sight struct {
	own, around []visible
	sums        bool       // aggregates may be
	grouped     bool       // other names may be in aggregates and in the group alone
	group       []api.Expr // of the kinds of kinds
	kinds       []int
}

// name returns a name of a kind, or false if there is none.
func (m *maker) name(kind int, in sight) (api.Expr, bool) {
	l := append(append([]visible{}, in.own...), in.around...)
	for _, i := range m.Perm(len(l)) {
		c := l[i]
		if c.Name == "" || c.Kind != kind && !m.spoilt() {
			continue
		}
		x := api.Expr{Op: api.OpName, Name: c.Name}
		for _, d := range l {
			if m.Intn(4) == 0 || d.Name == c.Name && d.source != c.source && m.Intn(20) > 0 {
				x.Table = c.source
			}
		}
		return x, true
	}
	return api.Expr{}, false
}

func (m *maker) leaf(kind int, in sight) api.Expr {
	if in.grouped {
		for i, k := range in.kinds {
			if k == kind && m.maybe() {
				return tidy(in.group[i])
			}
		}
		if !m.spoilt() {
			return m.constant(kind)
		}
	}
	if x, ok := m.name(kind, in); ok && m.Intn(4) > 0 {
		return x
	}
	return m.constant(kind)
}

func (m *maker) constant(kind int) api.Expr {
	v := api.Value{Kind: kind}
	if m.Intn(8) == 0 {
		v.Kind = api.Null
	}
	switch v.Kind {
	case api.Int:
		v.N = int64(m.Intn(3))
	case api.Bool:
		v.N = int64(m.Intn(2))
	case api.Text:
		v.S = pick(m, "", "x")
	}
	return api.Expr{Op: api.OpValue, Value: v}
}

// wrong is an expression that is rarely in place.
func (m *maker) wrong(in sight) api.Expr {
	switch m.Intn(4) {
	case 0:
		return api.Expr{Op: api.OpName, Table: pick(m, "", "x", "t0"), Name: pick(m, "nosuch", m.columnName())}
	case 1:
		return m.question(in)
	case 2:
		return m.aggregate(pick(m, api.Int, api.Text, api.Bool), in)
	}
	return m.expr(pick(m, api.Int, api.Text, api.Bool), in)
}

func (m *maker) expr(kind int, in sight) api.Expr {
	m.left--
	if m.spoilt() {
		return m.wrong(in)
	}
	if !m.may() {
		return m.leaf(kind, in)
	}
	if in.sums && m.maybe() {
		return m.aggregate(kind, in)
	}
	switch kind {
	case api.Int:
		return m.number(in)
	case api.Bool:
		return m.logic(in)
	}
	return m.leaf(kind, in)
}

func (m *maker) number(in sight) api.Expr {
	if m.maybe() {
		return api.Expr{Op: api.OpNeg, Args: []api.Expr{m.expr(api.Int, in)}}
	}
	return api.Expr{Op: api.OpAdd + m.Intn(5), Args: []api.Expr{m.expr(api.Int, in), m.expr(api.Int, in)}}
}

func (m *maker) logic(in sight) api.Expr {
	switch m.Intn(4) {
	case 0:
		return api.Expr{Op: api.OpNot, Args: []api.Expr{m.expr(api.Bool, in)}}
	case 1:
		return api.Expr{Op: pick(m, api.OpIsNull, api.OpNotNull), Args: []api.Expr{m.expr(m.columnKind(), in)}}
	case 2:
		return api.Expr{Op: pick(m, api.OpAnd, api.OpOr), Args: []api.Expr{m.expr(api.Bool, in), m.expr(api.Bool, in)}}
	}
	kind := m.columnKind()
	return api.Expr{Op: api.OpEq + m.Intn(6), Args: []api.Expr{m.expr(kind, in), m.expr(kind, in)}}
}

func (m *maker) aggregate(kind int, in sight) api.Expr {
	in.sums, in.grouped = m.spoilt(), false
	if kind == api.Int && m.maybe() {
		return api.Expr{Op: api.OpCountAll}
	}
	if kind == api.Int && m.maybe() {
		return api.Expr{Op: api.OpCount, Args: []api.Expr{m.expr(m.columnKind(), in)}}
	}
	op := pick(m, api.OpMin, api.OpMax)
	if kind == api.Int && m.maybe() {
		op = api.OpSum
	}
	return api.Expr{Op: op, Args: []api.Expr{m.expr(kind, in)}}
}

// question is an exists or in, over what is around it.
func (m *maker) question(in sight) api.Expr {
	op := pick(m, api.OpExists, api.OpNotExists, api.OpIn, api.OpNotIn)
	x := api.Expr{Op: op}
	kind := 0
	if op >= api.OpIn {
		kind = m.columnKind()
		x.Args = []api.Expr{m.expr(kind, sight{own: in.own})}
	}
	q := api.Query{Op: api.QuerySelect}
	if m.spoilt() {
		q, _ = m.query(nil)
		x.Query = []api.Query{q}
		return x
	}
	var own []visible
	q.Select.From, own = m.sources()
	inner := sight{own: own, around: in.own}
	if m.maybe() {
		q.Select.Where = []api.Expr{m.expr(api.Bool, inner)}
	}
	q.Select.Distinct = m.spoilt()
	q.Select.Items = []api.Item{{Expr: m.expr(kind, inner)}}
	for kind == 0 && m.maybe() || m.often() {
		q.Select.Items = append(q.Select.Items, api.Item{Star: true}, api.Item{Expr: m.expr(m.columnKind(), inner)})
	}
	x.Query = []api.Query{q}
	return x
}

// sources returns a from clause, and its scope.
func (m *maker) sources() ([]api.Source, []visible) {
	var l []api.Source
	var scope []visible
	aliases := m.Perm(6)
	for i := range 4 {
		if i > 0 && !(m.maybe() && m.may()) {
			break
		}
		s := api.Source{}
		var own []api.Column
		if m.Intn(5) == 0 && m.may() {
			q, columns := m.query(nil)
			s.Query, own = []api.Query{q}, columns
		} else {
			x := pick(m, m.tables...)
			s.Table, own = x.Name, x.Columns
			if m.spoilt() {
				s.Table = "nosuch"
			}
		}
		if len(s.Query) > 0 || m.Intn(8) > 0 {
			s.As = string(rune('u' + aliases[i]))
		}
		if m.spoilt() {
			s.As = pick(m, "u", "v", "t0")
		}
		for _, c := range own {
			scope = append(scope, visible{source: sourceName(s), Column: c})
		}
		if i > 0 {
			s.Kind = pick(m, api.SourceJoin, api.SourceLeft)
			s.On = []api.Expr{m.expr(api.Bool, sight{own: scope})}
		}
		l = append(l, s)
	}
	return l, scope
}

// conjuncts is a Where.
func (m *maker) conjuncts(in sight) api.Expr {
	switch {
	case m.maybe() && m.may():
		return api.Expr{Op: api.OpAnd, Args: []api.Expr{m.conjuncts(in), m.conjuncts(in)}}
	case m.maybe():
		return m.question(in)
	}
	return m.expr(api.Bool, in)
}

// query returns a query with columns of given kinds, or of any if there are none, and its columns, as far as names and kinds go.
func (m *maker) query(kinds []int) (api.Query, []api.Column) {
	m.left--
	if m.Intn(6) == 0 && m.may() {
		a, columns := m.query(kinds)
		kinds = nil
		for _, c := range columns {
			kinds = append(kinds, c.Kind)
		}
		if m.often() {
			kinds = append(kinds[:m.Intn(len(kinds))], m.columnKind())
		}
		b, _ := m.query(kinds)
		return api.Query{Op: pick(m, api.QueryUnion, api.QueryUnion, api.QueryExcept), Parts: []api.Query{a, b}}, columns
	}
	s := api.Select{Distinct: m.Intn(6) == 0}
	var scope []visible
	s.From, scope = m.sources()
	in := sight{own: scope}
	if m.maybe() {
		s.Where = []api.Expr{m.conjuncts(in)}
	}
	if m.Intn(4) == 0 {
		in = m.group(&s, in)
	}
	columns := m.items(&s, kinds, in)
	if in.grouped && m.maybe() {
		s.Having = []api.Expr{m.expr(api.Bool, in)}
	}
	return api.Query{Op: api.QuerySelect, Select: s}, columns
}

func (m *maker) group(s *api.Select, in sight) sight {
	for m.maybe() {
		kind := m.columnKind()
		s.Group = append(s.Group, m.expr(kind, in))
		in.kinds = append(in.kinds, kind)
	}
	in.grouped, in.sums, in.group = true, true, s.Group
	return in
}

func (m *maker) items(s *api.Select, kinds []int, in sight) (columns []api.Column) {
	for i := 0; i < len(kinds) || len(kinds) == 0 && (i == 0 || m.maybe()); i++ {
		if len(kinds) == 0 && m.Intn(5) == 0 && (!in.grouped || m.spoilt()) {
			s.Items = append(s.Items, api.Item{Star: true})
			for _, c := range in.own {
				columns = append(columns, c.Column)
			}
			continue
		}
		kind := m.columnKind()
		if len(kinds) > 0 {
			kind = kinds[i]
		}
		x := api.Item{Expr: m.expr(kind, in)}
		if m.Intn(3) > 0 {
			x.Name = m.columnName()
		}
		s.Items = append(s.Items, x)
		columns = append(columns, api.Column{Name: x.Name, Kind: kind})
		if x.Name == "" {
			columns[len(columns)-1].Name = x.Expr.Name
		}
	}
	return columns
}

// whole is a query that is in nothing else.
func (m *maker) whole() api.Query {
	m.left = pick(m, 5, 15, 40)
	q, columns := m.query(nil)
	for m.maybe() {
		o := api.Order{Down: m.maybe(), Expr: api.Expr{Op: api.OpName, Name: columns[m.Intn(len(columns))].Name}}
		if o.Expr.Name == "" || m.spoilt() {
			o.Expr = pick(m, m.wrong(sight{}), api.Expr{Op: api.OpName, Name: m.columnName()})
		}
		q.Order = append(q.Order, o)
	}
	if m.Intn(8) == 0 && (len(q.Order) > 0 || m.maybe()) {
		q.Limited, q.Limit = true, int64(m.Intn(3))
	}
	return q
}

// graft puts a copy of one part of a tree, of a given type, in another one's place.
func graft[P, T any](m *maker, tree T) T {
	tree = tidy(tree)
	var l []*P
	walk(reflect.ValueOf(&tree).Elem(), func(part any) {
		if x, ok := part.(*P); ok && !reflect.ValueOf(x).Elem().IsZero() {
			l = append(l, x)
		}
	})
	if len(l) > 1 {
		x := tidy(*pick(m, l...))
		*pick(m, l...) = x
	}
	return tree
}
