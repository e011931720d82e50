package names_test

import (
	"reflect"

	"touchmark/api"
	"touchmark/names"
	"touchmark/print"
	"touchmark/scan"
	"touchmark/value"
)

// model is the chapter's words, one after the other: what is wrong ends it by a panic with the error's number.
type model struct{ tables []api.Table }

// visible is a column of a scope.
type visible struct {
	source string
	api.Column
}

func require(ok bool, e api.Errno) {
	if !ok {
		panic(e)
	}
}

// first returns the error with which a function ends, or OK.
func first(f func()) (e api.Errno) {
	defer func() {
		if x := recover(); x != nil {
			e = x.(api.Errno)
		}
	}()
	f()
	return api.OK
}

func modelQuery(t []api.Table, q api.Query) (l []api.Column, e api.Errno) {
	e = first(func() {
		require(print.CheckQuery(q) == api.OK, print.CheckQuery(q))
		require(modelValid(t), api.ErrArg)
		l = model{t}.query(q)
	})
	return l, e
}

func modelValid(t []api.Table) bool {
	ok := true
	for i, x := range t {
		ok = ok && scan.Name(x.Name) && len(x.Columns) >= 1 && len(x.Columns) <= 8
		for _, y := range t[:i] {
			ok = ok && x.Name != y.Name
		}
		for j, c := range x.Columns {
			ok = ok && scan.Name(c.Name) && c.Kind >= 1 && c.Kind <= 3 && !(c.Nullable && x.Key == j)
			for _, d := range x.Columns[:j] {
				ok = ok && c.Name != d.Name
			}
		}
		ok = ok && x.Key >= -1 && x.Key < len(x.Columns)
	}
	return ok
}

func (m model) table(name string) (api.Table, int) {
	for i, x := range m.tables {
		if x.Name == name {
			return x, i
		}
	}
	panic(api.ErrName)
}

func isNullOr(a, b int) bool { return a == b || a == 0 || b == 0 }

func (m model) query(q api.Query) []api.Column {
	var l []api.Column
	if len(q.Parts) == 0 {
		l = m.selects(q.Select)
	} else {
		a, b := m.query(q.Parts[0]), m.query(q.Parts[1])
		require(len(a) == len(b), api.ErrCount)
		for i := range a {
			require(isNullOr(a[i].Kind, b[i].Kind), api.ErrKind)
			l = append(l, api.Column{Name: a[i].Name, Kind: max(a[i].Kind, b[i].Kind), Nullable: a[i].Nullable || b[i].Nullable})
		}
	}
	for _, o := range q.Order {
		require(o.Expr.Op == api.OpName && o.Expr.Table == "", api.ErrPlace)
		n := 0
		for _, c := range l {
			if c.Name == o.Expr.Name {
				n++
			}
		}
		require(n > 0, api.ErrName)
		require(n < 2, api.ErrTwice)
	}
	require(!q.Limited || len(q.Order) > 0, api.ErrLimit)
	return l
}

func sourceName(s api.Source) string {
	if s.As != "" {
		return s.As
	}
	return s.Table
}

func (m model) sources(from []api.Source) []visible {
	var l []visible
	for i, s := range from {
		var own []api.Column
		if s.Table != "" {
			x, _ := m.table(s.Table)
			own = x.Columns
		} else {
			own = m.query(s.Query[0])
		}
		for _, earlier := range from[:i] {
			require(sourceName(earlier) != sourceName(s), api.ErrTwice)
		}
		for _, c := range own {
			if s.Kind == api.SourceLeft {
				c.Nullable = true
			}
			l = append(l, visible{sourceName(s), c})
		}
		for _, x := range s.On {
			m.condition(x, "On", l)
		}
	}
	return l
}

// of returns a name's column in the first scope in which the rule's error is not ErrName.
func of(x api.Expr, scopes [][]visible) api.Column {
	for _, scope := range scopes {
		var found []api.Column
		for _, c := range scope {
			if c.Name == x.Name && (x.Table == "" || x.Table == c.source) {
				found = append(found, c.Column)
			}
		}
		require(len(found) < 2, api.ErrTwice)
		if len(found) == 1 {
			return found[0]
		}
	}
	panic(api.ErrName)
}

// kind returns the kind of an expression at a place, and whether it is nullable, over scopes, the innermost first.
func (m model) kind(x api.Expr, place string, scopes ...[]visible) (int, bool) {
	switch x.Op {
	case api.OpValue:
		return x.Value.Kind, x.Value.Kind == api.Null
	case api.OpName:
		c := of(x, scopes)
		return c.Kind, c.Nullable
	case api.OpExists, api.OpNotExists, api.OpIn, api.OpNotIn:
		panic(api.ErrPlace)
	case api.OpCountAll, api.OpCount, api.OpSum, api.OpMin, api.OpMax:
		require(place == "Items" || place == "Having", api.ErrPlace)
		place = "aggregate"
	}
	kinds, nullable := []int{0, 0}, false
	for i, a := range x.Args {
		k, n := m.kind(a, place, scopes...)
		kinds[i], nullable = k, nullable || n
	}
	k, e := value.Result(x.Op, kinds[0], kinds[1])
	require(e == api.OK, e)
	switch x.Op {
	case api.OpSum, api.OpMin, api.OpMax:
		return k, true
	case api.OpIsNull, api.OpNotNull, api.OpCountAll, api.OpCount:
		return k, false
	}
	return k, nullable
}

func (m model) condition(x api.Expr, place string, scopes ...[]visible) {
	k, _ := m.kind(x, place, scopes...)
	require(isNullOr(k, api.Bool), api.ErrKind)
}

// conjuncts returns those of a condition.
func conjuncts(x api.Expr) []api.Expr {
	if x.Op == api.OpAnd {
		return append(conjuncts(x.Args[0]), conjuncts(x.Args[1])...)
	}
	return []api.Expr{x}
}

// sums returns whether an aggregate is in an expression.
func sums(x api.Expr) bool {
	for _, a := range x.Args {
		if sums(a) {
			return true
		}
	}
	return x.Op >= api.OpCountAll && x.Op <= api.OpMax
}

func (m model) selects(s api.Select) []api.Column {
	all := m.sources(s.From)
	for _, w := range s.Where {
		for _, x := range conjuncts(w) {
			if x.Op >= api.OpExists {
				m.conjunct(x, all)
			} else {
				m.condition(x, "Where", all)
			}
		}
	}
	for _, x := range s.Group {
		m.kind(x, "Group", all)
	}
	grouped := len(s.Group)+len(s.Having) > 0
	for _, i := range s.Items {
		grouped = grouped || sums(i.Expr)
	}
	var l []api.Column
	for _, i := range s.Items {
		if i.Star {
			require(!grouped, api.ErrGroup)
			for _, c := range all {
				l = append(l, c.Column)
			}
			continue
		}
		k, n := m.kind(i.Expr, "Items", all)
		require(!grouped || isOfGroup(i.Expr, s.Group), api.ErrGroup)
		c := api.Column{Name: i.Name, Kind: k, Nullable: n}
		if c.Name == "" && i.Expr.Op == api.OpName {
			c.Name = i.Expr.Name
		}
		l = append(l, c)
	}
	for _, x := range s.Having {
		m.condition(x, "Having", all)
		require(isOfGroup(x, s.Group), api.ErrGroup)
	}
	return l
}

func isOfGroup(x api.Expr, group []api.Expr) bool {
	for _, g := range group {
		if reflect.DeepEqual(tidy(x), tidy(g)) {
			return true
		}
	}
	if x.Op >= api.OpCountAll && x.Op <= api.OpMax {
		return true
	}
	for _, a := range x.Args {
		if !isOfGroup(a, group) {
			return false
		}
	}
	return x.Op != api.OpName
}

func (m model) conjunct(x api.Expr, around []visible) {
	operand := 0
	for _, a := range x.Args {
		operand, _ = m.kind(a, "Where", around)
	}
	q := x.Query[0]
	s := q.Select
	require(q.Op == api.QuerySelect && !s.Distinct && len(s.Group) == 0 && len(s.Having) == 0, api.ErrPlace)
	for _, i := range s.Items {
		require(!sums(i.Expr), api.ErrPlace)
	}
	own := m.sources(s.From)
	for _, w := range s.Where {
		m.condition(w, "Where", own, around)
	}
	if len(x.Args) > 0 {
		require(len(s.Items) == 1 && !s.Items[0].Star, api.ErrCount)
	}
	for _, i := range s.Items {
		if i.Star {
			continue
		}
		k, _ := m.kind(i.Expr, "Items", own, around)
		require(len(x.Args) == 0 || isNullOr(k, operand), api.ErrKind)
	}
}

// modelKeeps asks all parts of a query, at any depth, by their types.
func modelKeeps(q api.Query) bool {
	keeps := true
	walk(reflect.ValueOf(&q).Elem(), func(part any) {
		switch x := part.(type) {
		case *api.Query:
			keeps = keeps && len(x.Order) == 0 && !x.Limited && x.Op != api.QueryExcept && !x.Select.Distinct
		case *api.Expr:
			keeps = keeps && len(x.Query) == 0 && (x.Op < api.OpExists || x.Op > api.OpNotIn)
		}
	})
	return keeps
}

func modelStatement(t []api.Table, views int, s api.Statement) api.Errno {
	return first(func() {
		require(print.Check(s) == api.OK, print.Check(s))
		require(modelValid(t) && views >= 0 && views <= len(t), api.ErrArg)
		m := model{t}
		switch s.Op {
		case api.DoQuery:
			m.query(s.Query)
		case api.DoTable:
			require(!m.has(s.Table.Name), api.ErrTwice)
			require(len(t)-views < 8 && len(s.Table.Columns) <= 8, api.ErrMany)
			requireDifferent(s.Table.Columns)
		case api.DoView:
			m.view(views, s)
		case api.DoInsert:
			m.insert(m.stored(s.Name, views), s)
		case api.DoDelete:
			over := ofTable(m.stored(s.Name, views))
			for _, w := range s.Where {
				m.condition(w, "Where", over)
			}
		case api.DoUpdate:
			m.update(m.stored(s.Name, views), s)
		}
	})
}

func (m model) has(name string) bool {
	return first(func() { m.table(name) }) == api.OK
}

func requireDifferent(l []api.Column) {
	for i, c := range l {
		for _, d := range l[:i] {
			require(c.Name != d.Name, api.ErrTwice)
		}
	}
}

func (m model) view(views int, s api.Statement) {
	require(!m.has(s.Name), api.ErrTwice)
	require(views < 8, api.ErrMany)
	l := m.query(s.Query)
	require(len(l) <= 8, api.ErrMany)
	for _, c := range l {
		require(c.Name != "", api.ErrName)
	}
	requireDifferent(l)
	for _, c := range l {
		require(c.Kind != 0, api.ErrKind)
	}
	require(names.Keeps(s.Query), api.ErrView)
}

func (m model) stored(name string, views int) api.Table {
	x, i := m.table(name)
	require(i < len(m.tables)-views, api.ErrPlace)
	return x
}

func ofTable(x api.Table) []visible {
	var l []visible
	for _, c := range x.Columns {
		l = append(l, visible{x.Name, c})
	}
	return l
}

func (m model) insert(x api.Table, s api.Statement) {
	for _, r := range s.Rows {
		require(len(r) == len(x.Columns), api.ErrCount)
		for i, y := range r {
			k, _ := m.kind(y, "Values")
			require(isNullOr(k, x.Columns[i].Kind), api.ErrKind)
		}
	}
}

func (m model) update(x api.Table, s api.Statement) {
	for i, set := range s.Sets {
		column := of(api.Expr{Name: set.Name}, [][]visible{ofTable(x)})
		for _, earlier := range s.Sets[:i] {
			require(earlier.Name != set.Name, api.ErrTwice)
		}
		k, _ := m.kind(set.Expr, "Sets", ofTable(x))
		require(isNullOr(k, column.Kind), api.ErrKind)
	}
	for _, w := range s.Where {
		m.condition(w, "Where", ofTable(x))
	}
}

// tidy returns a deep copy of a tree in which empty slices are nil.
func tidy[T any](tree T) T {
	return tidied(reflect.ValueOf(tree)).Interface().(T)
}

func tidied(v reflect.Value) reflect.Value {
	c := reflect.New(v.Type()).Elem()
	c.Set(v)
	switch v.Kind() {
	case reflect.Struct:
		for i := range v.NumField() {
			c.Field(i).Set(tidied(v.Field(i)))
		}
	case reflect.Slice:
		c.SetZero()
		for i := range v.Len() {
			c.Set(reflect.Append(c, tidied(v.Index(i))))
		}
	}
	return c
}

// walk calls a function with the addresses of all parts of a tree.
func walk(v reflect.Value, each func(part any)) {
	each(v.Addr().Interface())
	switch v.Kind() {
	case reflect.Struct:
		for i := range v.NumField() {
			walk(v.Field(i), each)
		}
	case reflect.Slice:
		for i := range v.Len() {
			walk(v.Index(i), each)
		}
	}
}
