package print_test

import (
	"reflect"
	"strconv"
	"strings"
	"testing"

	"touchmark/api"
	"touchmark/parse"
	"touchmark/scan"
)

// tidy returns a deep copy of a tree in which empty slices are nil.
func tidy[T any](tree T) T {
	return tidied(reflect.ValueOf(tree)).Interface().(T)
}

func tidied(v reflect.Value) reflect.Value {
	c := reflect.New(v.Type()).Elem()
	c.Set(v)
	switch v.Kind() {
	case reflect.Struct:
		for i := range v.NumField() {
			c.Field(i).Set(tidied(v.Field(i)))
		}
	case reflect.Slice:
		c.SetZero()
		for i := range v.Len() {
			c.Set(reflect.Append(c, tidied(v.Index(i))))
		}
	}
	return c
}

func isSame[T any](a, b T) bool {
	return reflect.DeepEqual(tidy(a), tidy(b))
}

// measure returns the depth and the number of nodes of a tree, by the types of its parts.
func measure(v reflect.Value) (depth, nodes int) {
	inner := func(v reflect.Value) {
		d, n := measure(v)
		depth, nodes = max(depth, d), nodes+n
	}
	switch x := v.Interface().(type) {
	case api.Statement:
		return measureStatement(x)
	case api.Item:
		if x.Star && isSame(x.Expr, api.Expr{}) {
			return 0, 1
		}
		nodes++
	case api.Expr, api.Query, api.Source, api.Order, api.Column, api.Set:
		nodes++
	}
	switch v.Kind() {
	case reflect.Struct:
		for i := range v.NumField() {
			inner(v.Field(i))
		}
	case reflect.Slice:
		for i := range v.Len() {
			inner(v.Index(i))
		}
	}
	switch v.Interface().(type) {
	case api.Expr, api.Query:
		depth++
	}
	return depth, nodes
}

func measureStatement(s api.Statement) (depth, nodes int) {
	l := []any{s.Rows, s.Sets, s.Where}
	switch s.Op {
	case api.DoQuery, api.DoView:
		l = append(l, s.Query)
	case api.DoTable:
		l = append(l, s.Table.Columns)
	}
	for _, x := range l {
		d, n := measure(reflect.ValueOf(x))
		depth, nodes = max(depth, d), nodes+n
	}
	return depth, nodes + len(s.Rows)
}

// named returns a copy of a tree in which all names that stand where one can stand are names.
func named(s api.Statement) api.Statement {
	s = tidy(s)
	switch s.Op {
	case api.DoTable:
		s.Table.Name = "a"
		for i := range s.Table.Columns {
			s.Table.Columns[i].Name = "a"
		}
	case api.DoView, api.DoInsert, api.DoDelete, api.DoUpdate:
		s.Name = "a"
	}
	walk(reflect.ValueOf(&s).Elem(), func(part any) {
		switch x := part.(type) {
		case *api.Set:
			x.Name = "a"
		case *api.Item:
			optional(&x.Name)
		case *api.Source:
			if len(x.Query) == 0 {
				x.Table = "a"
			}
			optional(&x.As)
		case *api.Expr:
			if x.Op == api.OpName {
				x.Name = "a"
				optional(&x.Table)
			}
		}
	})
	return s
}

func optional(name *string) {
	if *name != "" {
		*name = "a"
	}
}

// valued returns a copy of a tree in which all values that stand where one can stand are valid.
func valued(s api.Statement) api.Statement {
	s = tidy(s)
	walk(reflect.ValueOf(&s).Elem(), func(part any) {
		if x, ok := part.(*api.Expr); ok && x.Op == api.OpValue {
			x.Value = api.Value{}
		}
	})
	return s
}

// walk calls a function with the addresses of all parts of a tree.
func walk(v reflect.Value, each func(part any)) {
	each(v.Addr().Interface())
	switch v.Kind() {
	case reflect.Struct:
		for i := range v.NumField() {
			walk(v.Field(i), each)
		}
	case reflect.Slice:
		for i := range v.Len() {
			walk(v.Index(i), each)
		}
	}
}

// modelCheck is P11.1 without ErrBytes, by P11.4: a tree is well-formed if its parts, written out with parentheses around each of them, are read as it. It is false where that text is too long to be read.
func modelCheck(s api.Statement) (api.Errno, bool) {
	depth, nodes := measure(reflect.ValueOf(s))
	if depth > 24 {
		return api.ErrDeep, true
	}
	if nodes > 512 {
		return api.ErrMany, true
	}
	known := true
	for _, x := range []struct {
		s api.Statement
		e api.Errno
	}{{named(valued(s)), api.ErrForm}, {valued(s), api.ErrName}, {tidy(s), api.ErrKind}} {
		src := loud(x.s)
		known = known && len(src) <= 4096
		if !isText(src, x.s) {
			return x.e, known
		}
	}
	return api.OK, known
}

// isText returns whether a source is read as a tree, which is a tidy one.
func isText(src string, s api.Statement) bool {
	back, e, _ := parse.Statement(src)
	return e == api.OK && reflect.DeepEqual(back, s)
}

// loud writes a tree, well-formed or not, with parentheses around all expressions and all parts of queries.
func loud(s api.Statement) string {
	switch s.Op {
	case api.DoQuery:
		return loudQuery(s.Query)
	case api.DoTable:
		return "create table " + s.Table.Name + " (" + each(s.Table.Columns, func(c api.Column) string {
			return c.Name + " " + one(c.Kind, "", "int", "text", "bool") + when(!c.Nullable, " not null")
		}, s.Table.Key) + ")"
	case api.DoView:
		return "create view " + s.Name + " as " + loudQuery(s.Query)
	case api.DoInsert:
		return "insert into " + s.Name + " values " + each(s.Rows, func(l []api.Expr) string { return "(" + each(l, loudExpr, -1) + ")" }, -1)
	case api.DoDelete:
		return "delete from " + s.Name + clause("where", s.Where)
	case api.DoUpdate:
		return "update " + s.Name + " set " + each(s.Sets, func(x api.Set) string { return x.Name + " = " + loudExpr(x.Expr) }, -1) + clause("where", s.Where)
	}
	return one(s.Op-api.DoCommit, "commit", "abort")
}

// one returns one of some texts, or what is no token if there is none with that number.
func one(i int, l ...string) string {
	if i < 0 || i >= len(l) {
		return "!"
	}
	return l[i]
}

func when(b bool, s string) string {
	if b {
		return s
	}
	return ""
}

// each writes a list; of columns, also which of them is the key.
func each[T any](l []T, element func(T) string, key int) string {
	var texts []string
	for i, x := range l {
		texts = append(texts, element(x)+when(i == key, " primary key"))
	}
	return strings.Join(texts, ", ")
}

func clause(keyword string, l []api.Expr) string {
	return when(len(l) > 0, " "+keyword+" "+each(l, loudExpr, -1))
}

func loudQuery(q api.Query) string {
	key := func(o api.Order) string { return loudExpr(o.Expr) + when(o.Down, " desc") }
	s := loudBody(q) + when(len(q.Order) > 0, " order by "+each(q.Order, key, -1))
	return s + when(q.Limited, " limit "+strconv.FormatInt(q.Limit, 10))
}

func loudBody(q api.Query) string {
	if q.Op != api.QuerySelect {
		var texts []string
		for _, x := range q.Parts {
			texts = append(texts, "("+loudQuery(x)+")")
		}
		return strings.Join(texts, " "+one(q.Op, "!", "!", "union all", "except all")+" ")
	}
	s := q.Select
	text := "select " + when(s.Distinct, "distinct ") + each(s.Items, loudItem, -1) + " from"
	for i, x := range s.From {
		text += when(i > 0, " "+one(x.Kind, "!", "join", "left join")) + " " + loudSource(x)
	}
	text += clause("where", s.Where) + when(len(s.Group) > 0, " group by "+each(s.Group, loudExpr, -1)) + clause("having", s.Having)
	return text
}

func loudItem(i api.Item) string {
	if i.Star {
		return "*"
	}
	return loudExpr(i.Expr) + when(i.Name != "", " as "+i.Name)
}

func loudSource(s api.Source) string {
	text := s.Table
	for _, q := range s.Query {
		text = "(" + loudQuery(q) + ")"
	}
	return text + when(s.As != "", " as "+s.As) + clause("on", s.On)
}

func loudExpr(x api.Expr) string {
	var l []string
	for _, y := range x.Args {
		l = append(l, loudExpr(y))
	}
	for _, q := range x.Query {
		l = append(l, "("+loudQuery(q)+")")
	}
	all := strings.Join(l, " ")
	last := one(len(l)-1, l...)
	switch x.Op {
	case api.OpValue:
		all = loudValue(x.Value)
	case api.OpName:
		all = when(x.Table != "", x.Table+".") + x.Name
	case api.OpNeg:
		all = "-" + all
	case api.OpNot:
		all = "not " + all
	case api.OpIsNull:
		all += " is null"
	case api.OpNotNull:
		all += " is not null"
	case api.OpCountAll:
		all = "count(*)"
	case api.OpCount, api.OpSum, api.OpMin, api.OpMax:
		all = one(x.Op-api.OpCount, "count", "sum", "min", "max") + all
	case api.OpExists:
		all = "exists " + all
	case api.OpNotExists:
		all = "not exists " + all
	case api.OpIn:
		all = allButLast(l) + " in " + last
	case api.OpNotIn:
		all = allButLast(l) + " not in " + last
	default:
		all = allButLast(l) + " " + one(x.Op, "", "", "", "", "", "+", "-", "*", "/", "%", "=", "<>", "<", "<=", ">", ">=", "", "and", "or") + " " + last
	}
	return "(" + all + ")"
}

func allButLast(l []string) string {
	return strings.Join(l[:max(0, len(l)-1)], " ")
}

func loudValue(v api.Value) string {
	switch v.Kind {
	case api.Int:
		return strconv.FormatInt(v.N, 10)
	case api.Text:
		return "'" + strings.Join(strings.Split(v.S, "'"), "''") + "'"
	case api.Bool:
		return when(v.N == 0, "false") + when(v.N != 0, "true")
	}
	return "null"
}

// modelText is P11.2: a text with all parentheses, of which those that make no difference are left out, the outer ones first, and with the blanks that the chapter lists.
func modelText(t *testing.T, s api.Statement) string {
	t.Helper()
	tokens, e, _ := scan.All(loud(s))
	if e != api.OK {
		t.Fatalf("%+v: %d", s, e)
	}
	var l []string
	for _, x := range tokens {
		l = append(l, x.Text)
	}
	if s.Op == api.DoTable && s.Table.Key >= 0 {
		l = strings.Split(strings.Replace(strings.Join(l, "\n"), "not\nnull\nprimary\n", "primary\n", 1), "\n")
	}
	for i := 0; i < len(l); {
		if l[i] == "(" && isText(strings.Join(without(l, i), " "), s) {
			l = without(l, i)
		} else {
			i++
		}
	}
	return spaced(l)
}

// without returns tokens without the one at i and the parenthesis that belongs to it.
func without(l []string, i int) []string {
	open := 0
	for j := i; j < len(l); j++ {
		open += map[string]int{"(": 1, ")": -1}[l[j]]
		if open == 0 {
			return append(append(append([]string{}, l[:i]...), l[i+1:max(i+1, j)]...), l[j+1:]...)
		}
	}
	return nil
}

func spaced(l []string) string {
	text := ""
	for i, x := range l {
		if i > 0 && !isTight(l, i) {
			text += " "
		}
		text += x
	}
	return text
}

// isTight returns whether no blank is ahead of a token.
func isTight(l []string, i int) bool {
	last, x := l[i-1], l[i]
	switch {
	case last == "(", x == ")", x == ",", last == ".", x == ".":
		return true
	case last == "-":
		return i < 2 || !isEnd(l[i-2])
	}
	return x == "(" && strings.Contains(" count sum min max ", " "+last+" ")
}

// isEnd returns whether an operand can end with a token.
func isEnd(token string) bool {
	switch token {
	case ")", "null", "true", "false":
		return true
	}
	return token[0] == '\'' || token[0] >= '0' && token[0] <= '9' || scan.Name(token)
}
