package parse_test

import (
	"math/rand"
	"strings"

	"touchmark/api"
	"touchmark/scan"
)

// writer makes up parts of the grammar by chance, each as tokens together with the tree that the chapter has for them.
type writer struct {
	*rand.Rand
	deep  int // how many of its parts are within one another
	apart map[[2]string]bool
}

func newWriter(seed int64) *writer {
	return &writer{Rand: rand.New(rand.NewSource(seed)), apart: map[[2]string]bool{}}
}

// words are the tokens of a part.
type words []string

func (w *writer) maybe() bool { return w.Intn(3) == 0 }

// more returns whether a repetition goes on; within many parts it does not, for an end to be found.
func (w *writer) more() bool { return w.Intn(4+2*w.deep) == 0 }

func (w *writer) name() string {
	l := []string{"a", "b", "t", "u", "x1", "z9z", "selects", "aaaaaaaaaaaaaaaa"}
	return l[w.Intn(len(l))]
}

// part returns tokens together, some of them fixed ones.
func part(l ...any) words {
	var all words
	for _, x := range l {
		switch x := x.(type) {
		case words:
			all = append(all, x...)
		case string:
			all = append(all, strings.Fields(x)...)
		}
	}
	return all
}

// within makes up a part of a part.
func within[T any](w *writer, f func() (words, T)) (words, T) {
	w.deep++
	defer func() { w.deep-- }()
	return f()
}

func listOf[T any](w *writer, f func() (words, T)) (words, []T) {
	s, x := f()
	l := []T{x}
	for w.more() {
		more, y := f()
		s, l = part(s, ",", more), append(l, y)
	}
	return s, l
}

// chain makes up operands with operators between, which associate to the left.
func (w *writer) chain(f func() (words, api.Expr), bytes string, ops ...int) (words, api.Expr) {
	s, x := f()
	for w.more() {
		i := w.Intn(len(ops))
		more, y := f()
		s, x = part(s, strings.Fields(bytes)[i], more), node(ops[i], x, y)
	}
	return s, x
}

func node(op int, args ...api.Expr) api.Expr { return api.Expr{Op: op, Args: args} }

func integer(n int64) api.Expr { return constant(api.Value{Kind: api.Int, N: n}) }

func constant(v api.Value) api.Expr { return api.Expr{Op: api.OpValue, Value: v} }

func (w *writer) or() (words, api.Expr)  { return w.chain(w.and, "or", api.OpOr) }
func (w *writer) and() (words, api.Expr) { return w.chain(w.not, "and", api.OpAnd) }

func (w *writer) not() (words, api.Expr) {
	switch w.Intn(8 + w.deep) {
	case 0:
		s, q := within(w, w.body)
		return part("not exists (", s, ")"), api.Expr{Op: api.OpNotExists, Query: []api.Query{q}}
	case 1:
		s, x := within(w, w.not)
		switch {
		case s[0] != "exists":
			return part("not", s), node(api.OpNot, x)
		case x.Op == api.OpExists:
			return part("not (", s, ")"), node(api.OpNot, x)
		}
	}
	return w.test()
}

func (w *writer) test() (words, api.Expr) {
	s, x := w.sum()
	switch w.Intn(8 + w.deep) {
	case 0, 1:
		i := w.Intn(6)
		more, y := w.sum()
		return part(s, strings.Fields("= <> < <= > >=")[i], more), node([]int{api.OpEq, api.OpNe, api.OpLt, api.OpLe, api.OpGt, api.OpGe}[i], x, y)
	case 2:
		return part(s, "is null"), node(api.OpIsNull, x)
	case 3:
		return part(s, "is not null"), node(api.OpNotNull, x)
	case 4:
		more, q := within(w, w.body)
		return part(s, "in (", more, ")"), api.Expr{Op: api.OpIn, Args: []api.Expr{x}, Query: []api.Query{q}}
	case 5:
		more, q := within(w, w.body)
		return part(s, "not in (", more, ")"), api.Expr{Op: api.OpNotIn, Args: []api.Expr{x}, Query: []api.Query{q}}
	}
	return s, x
}

func (w *writer) sum() (words, api.Expr) {
	return w.chain(w.product, "+ -", api.OpAdd, api.OpSub)
}

func (w *writer) product() (words, api.Expr) {
	return w.chain(w.ahead, "* / %", api.OpMul, api.OpDiv, api.OpRem)
}

func (w *writer) ahead() (words, api.Expr) {
	switch w.Intn(10 + w.deep) {
	case 0:
		l := []string{"0", "5", "9223372036854775807", "9223372036854775808"}
		i := w.Intn(len(l))
		return part("-", l[i]), integer([]int64{0, -5, -1<<63 + 1, -1 << 63}[i])
	case 1:
		s, x := within(w, w.ahead)
		if s[0][0] >= '0' && s[0][0] <= '9' { // this would be a negative number
			s = part("(", s, ")")
		}
		return part("-", s), node(api.OpNeg, x)
	}
	return w.one()
}

func (w *writer) one() (words, api.Expr) {
	switch w.Intn(12) {
	case 0:
		l := []string{"0", "7", "9223372036854775807"}
		i := w.Intn(len(l))
		return part(l[i]), integer([]int64{0, 7, 1<<63 - 1}[i])
	case 1:
		l := []string{"''", "'x'", "'it''s  so'", "'('", "'not'"}
		i := w.Intn(len(l))
		return words{l[i]}, constant(api.Value{Kind: api.Text, S: []string{"", "x", "it's  so", "(", "not"}[i]})
	case 2:
		return part("true"), constant(api.Value{Kind: api.Bool, N: 1})
	case 3:
		return part("false"), constant(api.Value{Kind: api.Bool})
	case 4:
		return part("null"), constant(api.Value{})
	case 5, 6, 7:
		return w.calls()
	case 8:
		table, name := w.name(), w.name()
		return part(table, ".", name), api.Expr{Op: api.OpName, Table: table, Name: name}
	}
	name := w.name()
	return part(name), api.Expr{Op: api.OpName, Name: name}
}

// calls makes up an expression with parentheses.
func (w *writer) calls() (words, api.Expr) {
	switch i := w.Intn(8 + 4*w.deep); i {
	case 0:
		s, q := within(w, w.body)
		return part("exists (", s, ")"), api.Expr{Op: api.OpExists, Query: []api.Query{q}}
	case 1, 2, 3, 4:
		s, x := within(w, w.or)
		return part([]string{"count", "sum", "min", "max"}[i-1], "(", s, ")"), node([]int{api.OpCount, api.OpSum, api.OpMin, api.OpMax}[i-1], x)
	case 5, 6:
		s, x := within(w, w.or)
		return part("(", s, ")"), x
	}
	return part("count ( * )"), api.Expr{Op: api.OpCountAll}
}

func (w *writer) query() (words, api.Query) {
	s, q := w.body()
	if w.maybe() {
		more, l := listOf(w, w.key)
		s, q.Order = part(s, "order by", more), l
	}
	if w.maybe() {
		l := []string{"0", "3", "9223372036854775807"}
		i := w.Intn(len(l))
		s, q.Limited, q.Limit = part(s, "limit", l[i]), true, []int64{0, 3, 1<<63 - 1}[i]
	}
	return s, q
}

func (w *writer) key() (words, api.Order) {
	s, x := w.or()
	if w.maybe() {
		return part(s, "desc"), api.Order{Expr: x, Down: true}
	}
	return s, api.Order{Expr: x}
}

func (w *writer) body() (words, api.Query) {
	s, q := w.unit()
	for w.more() && w.maybe() {
		i := w.Intn(2)
		more, r := w.unit()
		s = part(s, []string{"union all", "except all"}[i], more)
		q = api.Query{Op: []int{api.QueryUnion, api.QueryExcept}[i], Parts: []api.Query{q, r}}
	}
	return s, q
}

func (w *writer) unit() (words, api.Query) {
	if w.Intn(8) == 0 {
		s, q := within(w, w.body)
		return part("(", s, ")"), q
	}
	return w.selects()
}

func (w *writer) selects() (words, api.Query) {
	var x api.Select
	var distinct, items, from words
	if w.maybe() {
		distinct, x.Distinct = part("distinct"), true
	}
	items, x.Items = listOf(w, w.item)
	from, x.From = w.sources()
	s := part("select", distinct, items, "from", from)
	var more words
	if w.maybe() {
		more, x.Where = w.single()
		s = part(s, "where", more)
	}
	if w.maybe() {
		more, x.Group = listOf(w, w.or)
		s = part(s, "group by", more)
	}
	if w.maybe() {
		more, x.Having = w.single()
		s = part(s, "having", more)
	}
	return s, api.Query{Op: api.QuerySelect, Select: x}
}

func (w *writer) single() (words, []api.Expr) {
	s, x := w.or()
	return s, []api.Expr{x}
}

func (w *writer) item() (words, api.Item) {
	if w.Intn(4) == 0 {
		return part("*"), api.Item{Star: true}
	}
	s, x := w.or()
	if w.maybe() {
		name := w.name()
		return part(s, "as", name), api.Item{Expr: x, Name: name}
	}
	return s, api.Item{Expr: x}
}

func (w *writer) sources() (words, []api.Source) {
	s, x := w.source()
	l := []api.Source{x}
	for w.more() {
		i := w.Intn(2)
		more, y := w.source()
		on, z := w.single()
		y.Kind, y.On = []int{api.SourceJoin, api.SourceLeft}[i], z
		s, l = part(s, []string{"join", "left join"}[i], more, "on", on), append(l, y)
	}
	return s, l
}

func (w *writer) source() (words, api.Source) {
	table, as := w.name(), w.name()
	switch w.Intn(6 + w.deep) {
	case 0, 1:
		return part(table, "as", as), api.Source{Table: table, As: as}
	case 2:
		s, q := within(w, w.body)
		return part("(", s, ") as", as), api.Source{Query: []api.Query{q}, As: as}
	}
	return part(table), api.Source{Table: table}
}

func (w *writer) statement() (words, api.Statement) {
	name := w.name()
	switch w.Intn(9) {
	case 0:
		s, t := w.table(name)
		return s, api.Statement{Op: api.DoTable, Table: t}
	case 1:
		s, q := w.query()
		return part("create view", name, "as", s), api.Statement{Op: api.DoView, Name: name, Query: q}
	case 2:
		s, l := listOf(w, func() (words, []api.Expr) {
			s, l := listOf(w, w.or)
			return part("(", s, ")"), l
		})
		return part("insert into", name, "values", s), api.Statement{Op: api.DoInsert, Name: name, Rows: l}
	case 3:
		s, l := w.where()
		return part("delete from", name, s), api.Statement{Op: api.DoDelete, Name: name, Where: l}
	case 4:
		sets, l := listOf(w, w.set)
		s, where := w.where()
		return part("update", name, "set", sets, s), api.Statement{Op: api.DoUpdate, Name: name, Sets: l, Where: where}
	case 5:
		if w.maybe() {
			return part("commit"), api.Statement{Op: api.DoCommit}
		}
		return part("abort"), api.Statement{Op: api.DoAbort}
	}
	s, q := w.query()
	return s, api.Statement{Op: api.DoQuery, Query: q}
}

func (w *writer) where() (words, []api.Expr) {
	if w.maybe() {
		return nil, nil
	}
	s, l := w.single()
	return part("where", s), l
}

func (w *writer) set() (words, api.Set) {
	name := w.name()
	s, x := w.or()
	return part(name, "=", s), api.Set{Name: name, Expr: x}
}

func (w *writer) table(name string) (words, api.Table) {
	t := api.Table{Name: name, Key: -1}
	s, l := listOf(w, func() (words, api.Column) {
		i := w.Intn(3)
		c := api.Column{Name: w.name(), Kind: []int{api.Int, api.Text, api.Bool}[i], Nullable: true}
		s := part(c.Name, []string{"int", "text", "bool"}[i])
		if w.maybe() {
			s, c.Nullable = part(s, "not null"), false
		}
		return s, c
	})
	t.Columns = l
	if !w.maybe() {
		return part("create table", name, "(", s, ")"), t
	}
	t.Key = w.Intn(len(l))
	l[t.Key].Nullable = false
	return part("create table", name, "(", keyed(s, t.Key), ")"), t
}

// keyed puts primary key behind one of some columns.
func keyed(s words, key int) words {
	columns := strings.Split(strings.Join(s, " "), ",")
	columns[key] += " primary key "
	return part(strings.Join(columns, ","))
}

// text writes tokens one behind the other, with blanks by chance: one of them, several, or none where tokens are told apart without.
func (w *writer) text(l words) string {
	var s strings.Builder
	blank := func() { s.WriteByte(" \t\n\r"[w.Intn(4)]) }
	for i, x := range l {
		if i > 0 && !w.areApart(l[i-1], x) {
			blank()
		}
		for w.maybe() {
			blank()
		}
		s.WriteString(x)
	}
	for w.maybe() {
		blank()
	}
	return s.String()
}

// areApart returns whether two tokens are told apart without a blank.
func (w *writer) areApart(a, b string) bool {
	known, ok := w.apart[[2]string{a, b}]
	if !ok {
		l, e, _ := scan.All(a + b)
		known = e == api.OK && len(l) == 2 && l[0].Text == a
		w.apart[[2]string{a, b}] = known
	}
	return known
}
