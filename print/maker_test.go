package print_test

import (
	"math/rand"
	"strings"

	"touchmark/api"
)

// maker makes up well-formed trees by chance.
type maker struct {
	*rand.Rand
	deep int // how many expressions and queries it is in
	left int // how many more of them it makes up, but for those without which nothing is whole
}

func newMaker(seed int64) *maker {
	return &maker{Rand: rand.New(rand.NewSource(seed))}
}

func (m *maker) maybe() bool { return m.Intn(3) == 0 }

// may returns whether another part can be made up: fewer and fewer within one another, for an end to be found.
func (m *maker) may() bool {
	return m.left > 0 && m.deep < 18 && m.Intn(4+m.deep) < 4
}

func pick[T any](m *maker, l ...T) T { return l[m.Intn(len(l))] }

func listOf[T any](m *maker, element func() T) []T {
	l := []T{element()}
	for m.maybe() && m.may() {
		l = append(l, element())
	}
	return l
}

// some returns a list, or none.
func some[T any](m *maker, element func() T) []T {
	if m.maybe() && m.may() {
		return listOf(m, element)
	}
	return nil
}

// atMostOne returns an expression, or none.
func (m *maker) atMostOne() []api.Expr {
	if m.maybe() && m.may() {
		return []api.Expr{m.expr()}
	}
	return nil
}

func (m *maker) name() string {
	return pick(m, "a", "b", "t", "x1", "z9z", "nots", "selects", "aaaaaaaaaaaaaaaa")
}

func (m *maker) optionalName() string {
	return pick(m, "", m.name())
}

func (m *maker) value() api.Value {
	switch m.Intn(5) {
	case 0:
		return api.Value{}
	case 1:
		return api.Value{Kind: api.Bool, N: int64(m.Intn(2))}
	case 2:
		return api.Value{Kind: api.Text, S: pick(m, "", "x", "it's", "''", " ( not", "-", strings.Repeat("t", 64))}
	}
	return api.Value{Kind: api.Int, N: pick[int64](m, 0, 1, 5, -1, -5, 1<<63-1, -1<<63)}
}

func (m *maker) expr() api.Expr {
	m.deep++
	m.left--
	defer func() { m.deep-- }()
	if !m.may() {
		if m.maybe() {
			return api.Expr{Op: api.OpValue, Value: m.value()}
		}
		return api.Expr{Op: api.OpName, Table: m.optionalName(), Name: m.name()}
	}
	op := api.OpNeg + m.Intn(api.OpNotIn-api.OpNeg+1)
	switch op {
	case api.OpCountAll:
		return api.Expr{Op: op}
	case api.OpNeg, api.OpNot, api.OpIsNull, api.OpNotNull, api.OpCount, api.OpSum, api.OpMin, api.OpMax:
		return api.Expr{Op: op, Args: []api.Expr{m.expr()}}
	case api.OpExists, api.OpNotExists:
		return api.Expr{Op: op, Query: []api.Query{m.inner()}}
	case api.OpIn, api.OpNotIn:
		return api.Expr{Op: op, Args: []api.Expr{m.expr()}, Query: []api.Query{m.inner()}}
	}
	return api.Expr{Op: op, Args: []api.Expr{m.expr(), m.expr()}}
}

func (m *maker) query() api.Query {
	q := m.inner()
	q.Order = some(m, func() api.Order { return api.Order{Expr: m.expr(), Down: m.maybe()} })
	if m.maybe() {
		q.Limited, q.Limit = true, pick[int64](m, 0, 3, 1<<63-1)
	}
	return q
}

func (m *maker) inner() api.Query {
	m.deep++
	m.left--
	defer func() { m.deep-- }()
	if m.Intn(4) == 0 && m.may() {
		return api.Query{Op: pick(m, api.QueryUnion, api.QueryExcept), Parts: []api.Query{m.inner(), m.inner()}}
	}
	s := api.Select{Distinct: m.maybe(), Items: listOf(m, m.item), From: listOf(m, m.source)}
	for i := range s.From {
		if i > 0 {
			s.From[i].Kind, s.From[i].On = pick(m, api.SourceJoin, api.SourceLeft), []api.Expr{m.expr()}
		}
	}
	s.Where, s.Group, s.Having = m.atMostOne(), some(m, m.expr), m.atMostOne()
	return api.Query{Op: api.QuerySelect, Select: s}
}

func (m *maker) item() api.Item {
	if m.maybe() {
		return api.Item{Star: true}
	}
	return api.Item{Expr: m.expr(), Name: m.optionalName()}
}

// source makes up a source that nothing is ahead of.
func (m *maker) source() api.Source {
	if m.Intn(4) == 0 && m.may() {
		return api.Source{Query: []api.Query{m.inner()}, As: m.name()}
	}
	return api.Source{Table: m.name(), As: m.optionalName()}
}

func (m *maker) statement() api.Statement {
	m.left = pick(m, 3, 10, 40, 120)
	switch op := pick(m, api.DoQuery, api.DoQuery, api.DoQuery, api.DoTable, api.DoView, api.DoInsert, api.DoInsert, api.DoDelete, api.DoUpdate, api.DoUpdate, api.DoCommit, api.DoAbort); op {
	case api.DoQuery:
		return api.Statement{Op: op, Query: m.query()}
	case api.DoTable:
		return api.Statement{Op: op, Table: m.table()}
	case api.DoView:
		return api.Statement{Op: op, Name: m.name(), Query: m.query()}
	case api.DoInsert:
		return api.Statement{Op: op, Name: m.name(), Rows: listOf(m, func() []api.Expr { return listOf(m, m.expr) })}
	case api.DoDelete:
		return api.Statement{Op: op, Name: m.name(), Where: m.atMostOne()}
	case api.DoUpdate:
		return api.Statement{Op: op, Name: m.name(), Sets: listOf(m, func() api.Set { return api.Set{Name: m.name(), Expr: m.expr()} }), Where: m.atMostOne()}
	default:
		return api.Statement{Op: op}
	}
}

func (m *maker) table() api.Table {
	t := api.Table{Name: m.name(), Key: -1, Columns: listOf(m, func() api.Column {
		return api.Column{Name: m.name(), Kind: pick(m, api.Int, api.Text, api.Bool), Nullable: m.maybe()}
	})}
	if m.maybe() {
		t.Key = m.Intn(len(t.Columns))
		t.Columns[t.Key].Nullable = false
	}
	return t
}
