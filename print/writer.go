package print

import (
	"strconv"
	"strings"

	"touchmark/api"
)

// writer writes a well-formed tree, token after token.
type writer struct {
	write func(string) (int, error)
	last  string // the token, or tokens, put last
	tight bool   // whether no blank is behind them
}

// put writes tokens; keywords that always stand together can be one.
func (w *writer) put(tokens ...string) {
	for _, t := range tokens {
		if !w.tight && t != ")" && t != "," && t != "." {
			w.write(" ")
		}
		w.write(t)
		w.last, w.tight = t, t == "(" || t == "."
	}
}

// putTight writes a token that has no blank behind it.
func (w *writer) putTight(token string) {
	w.put(token)
	w.tight = true
}

func (w *writer) inParens(part func()) {
	w.put("(")
	part()
	w.put(")")
}

// list writes the elements of a list with commas.
func list[T any](w *writer, l []T, element func(T)) {
	for i, x := range l {
		if i > 0 {
			w.put(",")
		}
		element(x)
	}
}

// clause writes a keyword and the expressions behind it, if there are any.
func (w *writer) clause(keyword string, l []api.Expr) {
	if len(l) > 0 {
		w.put(keyword)
		list(w, l, w.expr)
	}
}

func (w *writer) expr(x api.Expr) {
	w.operand(x, orLevel)
}

// operand writes an expression where one of the level least, or of one above it, can stand without parentheses.
func (w *writer) operand(x api.Expr, least int) {
	if operators[x.Op].level < least || w.joinsLast(x) {
		w.inParens(func() { w.operation(x) })
		return
	}
	w.operation(x)
}

// joinsLast returns whether the first token of an expression would belong to the one ahead of it: not exists is one operator, and - with a number behind it is that number's sign.
func (w *writer) joinsLast(x api.Expr) bool {
	switch x.Op {
	case api.OpExists:
		return w.last == "not"
	case api.OpValue:
		return w.last == "-" && w.tight && x.Value.Kind == api.Int && x.Value.N >= 0
	}
	return false
}

func (w *writer) operation(x api.Expr) {
	o := operators[x.Op]
	switch x.Op {
	case api.OpValue:
		w.value(x.Value)
	case api.OpName:
		w.reference(x)
	case api.OpNeg:
		w.putTight(o.text)
		w.operand(x.Args[0], o.level)
	case api.OpNot:
		w.put(o.text)
		w.operand(x.Args[0], o.level)
	case api.OpIsNull, api.OpNotNull:
		w.operand(x.Args[0], o.level+1)
		w.put(o.text)
	case api.OpCountAll:
		w.putTight(o.text)
		w.inParens(func() { w.put("*") })
	case api.OpCount, api.OpSum, api.OpMin, api.OpMax:
		w.putTight(o.text)
		w.inParens(func() { w.expr(x.Args[0]) })
	case api.OpExists, api.OpNotExists:
		w.put(o.text)
		w.inner(x.Query[0])
	case api.OpIn, api.OpNotIn:
		w.operand(x.Args[0], o.level+1)
		w.put(o.text)
		w.inner(x.Query[0])
	default:
		w.binary(o, x.Args[0], x.Args[1])
	}
}

// binary writes an operator between its operands. A sequence of such operators associates to the left, but a test is no operand of a test.
func (w *writer) binary(o operator, a, b api.Expr) {
	least := o.level
	if least == testLevel {
		least++
	}
	w.operand(a, least)
	w.put(o.text)
	w.operand(b, o.level+1)
}

func (w *writer) reference(x api.Expr) {
	if x.Table != "" {
		w.put(x.Table, ".")
	}
	w.put(x.Name)
}

func (w *writer) value(v api.Value) {
	switch v.Kind {
	case api.Int:
		w.put(strconv.FormatInt(v.N, 10))
	case api.Text:
		w.put("'" + strings.ReplaceAll(v.S, "'", "''") + "'")
	case api.Bool:
		w.put(strconv.FormatBool(v.N == 1))
	default:
		w.put("null")
	}
}
