package rules_test

import (
	"slices"
	"strconv"
	"strings"

	"touchmark/api"
)

// The tests write plans as the chapter does: select (gt 0 #3) (scan t); columns as their numbers, other numbers with a sign ahead.

// tree is a text with parentheses and brackets: an atom, or a list; the first element of one in brackets is "[".
type tree struct {
	atom string
	list []tree
}

func atom(s string) tree { return tree{atom: s} }

// read returns the tree of a text without parentheses around it. Commas are blanks.
func read(s string) tree {
	for _, sign := range []string{"(", ")", "[", "]"} {
		s = strings.ReplaceAll(s, sign, " "+sign+" ")
	}
	l, rest := readList(strings.Fields(strings.ReplaceAll(s, ",", " ")))
	if len(rest) > 0 {
		panic("a parenthesis too many: " + s)
	}
	return tree{list: l}
}

func readList(words []string) (l []tree, rest []string) {
	for len(words) > 0 {
		w := words[0]
		words = words[1:]
		var inner []tree
		switch w {
		case ")", "]":
			return l, words
		case "(":
			inner, words = readList(words)
			l = append(l, tree{list: inner})
		case "[":
			inner, words = readList(words)
			l = append(l, tree{list: append([]tree{atom("[")}, inner...)})
		default:
			l = append(l, atom(w))
		}
	}
	return l, nil
}

// write is the inverse of read.
func write(t tree) string {
	if len(t.list) > 0 && t.list[0].atom == "[" {
		return "[" + write(tree{list: t.list[1:]}) + "]"
	}
	var l []string
	for _, x := range t.list {
		s := write(x)
		if x.list != nil && x.head() != "[" {
			s = "(" + s + ")"
		}
		l = append(l, s)
	}
	return t.atom + strings.Join(l, " ")
}

var (
	planNames = strings.Fields("none scan seek select project join left semi anti group union except distinct sort limit")
	termNames = strings.Fields("none value name column neg add sub mul div rem eq ne lt le gt ge not and or isnull notnull countall count sum min max")
)

// head is what a tree is: its first element, or nothing.
func (t tree) head() string {
	if len(t.list) == 0 {
		return ""
	}
	return t.list[0].atom
}

func (t tree) isPlan() bool { return slices.Contains(planNames, t.head()) }

// plan returns the plan that a tree is.
func (t tree) plan() api.Plan {
	p := api.Plan{Op: slices.Index(planNames, t.head())}
	if p.Op < 0 {
		panic("no plan: " + write(t))
	}
	brackets := 0
	for i, x := range t.list[1:] {
		switch {
		case x.isPlan():
			p.Args = append(p.Args, x.plan())
		case i == 0 && (p.Op == api.PlanScan || p.Op == api.PlanSeek):
			p.Table = x.atom
		case p.Op == api.PlanLimit:
			p.N = toNumber(x.atom)
		case x.head() != "[":
			p.Terms = append(p.Terms, x.term())
		default:
			p = x.bracketed(p, brackets)
			brackets++
		}
	}
	return p
}

// bracketed returns a plan with the elements of its first list in brackets, or of its second one.
func (t tree) bracketed(p api.Plan, number int) api.Plan {
	for _, x := range t.list[1:] {
		switch {
		case p.Op == api.PlanSort && x.list != nil:
			p.Keys = append(p.Keys, api.Key{Col: int(toNumber(x.list[1].atom)), Down: true})
		case p.Op == api.PlanSort:
			p.Keys = append(p.Keys, api.Key{Col: int(toNumber(x.atom))})
		case number == 1:
			y := x.term()
			p.Aggs = append(p.Aggs, api.Agg{Op: y.Op, Args: y.Args})
		default:
			p.Terms = append(p.Terms, x.term())
		}
	}
	return p
}

func (t tree) term() api.Term {
	if t.list == nil {
		if n, err := strconv.Atoi(t.atom); err == nil {
			return col(n)
		}
		if i := slices.Index(termNames, t.atom); i > 0 { // countall
			return op(i)
		}
		return val(toValue(t.atom))
	}
	x := op(slices.Index(termNames, t.head()))
	if x.Op < 0 {
		panic("no term: " + write(t))
	}
	for _, a := range t.list[1:] {
		x.Args = append(x.Args, a.term())
	}
	return x
}

func toNumber(s string) int64 {
	n, err := strconv.ParseInt(s, 10, 64)
	if err != nil {
		panic(err)
	}
	return n
}

func toValue(s string) api.Value {
	switch {
	case s == "null":
		return null
	case s == "true":
		return yes
	case s == "false":
		return no
	case s[0] == '\'':
		return letters(s[1 : len(s)-1])
	case s[0] == '#':
		return number(toNumber(s[1:]))
	}
	panic("no value: " + s)
}

var (
	null = api.Value{}
	no   = api.Value{Kind: api.Bool}
	yes  = api.Value{Kind: api.Bool, N: 1}
)

func number(n int64) api.Value { return api.Value{Kind: api.Int, N: n} }

func letters(s string) api.Value { return api.Value{Kind: api.Text, S: s} }

func col(i int) api.Term { return api.Term{Op: api.OpColumn, Col: i} }

func val(v api.Value) api.Term { return api.Term{Op: api.OpValue, Value: v} }

func op(op int, args ...api.Term) api.Term { return api.Term{Op: op, Args: args} }

// tell writes a plan without parentheses around it, so that read returns its tree.
func tell(p api.Plan) string {
	l := []string{planNames[p.Op]}
	if p.Table != "" {
		l = append(l, p.Table)
	}
	terms := list(p.Terms, tellTerm)
	switch p.Op {
	case api.PlanProject, api.PlanGroup:
		l = append(l, "["+strings.Join(terms, " ")+"]")
	default:
		l = append(l, terms...)
	}
	switch p.Op {
	case api.PlanGroup:
		l = append(l, "["+strings.Join(list(p.Aggs, tellAgg), " ")+"]")
	case api.PlanSort:
		l = append(l, "["+strings.Join(list(p.Keys, tellKey), " ")+"]")
	case api.PlanLimit:
		l = append(l, strconv.FormatInt(p.N, 10))
	}
	for _, a := range p.Args {
		l = append(l, "("+tell(a)+")")
	}
	return strings.Join(l, " ")
}

func list[T any](l []T, tell func(T) string) []string {
	var texts []string
	for _, x := range l {
		texts = append(texts, tell(x))
	}
	return texts
}

func tellAgg(a api.Agg) string {
	if a.Op == api.OpCountAll {
		return "countall"
	}
	return tellTerm(api.Term{Op: a.Op, Args: a.Args})
}

func tellKey(k api.Key) string {
	if k.Down {
		return "(down " + strconv.Itoa(k.Col) + ")"
	}
	return strconv.Itoa(k.Col)
}

func tellTerm(t api.Term) string {
	switch t.Op {
	case api.OpValue:
		return tellValue(t.Value)
	case api.OpColumn:
		return strconv.Itoa(t.Col)
	}
	return "(" + strings.Join(append([]string{termNames[t.Op]}, list(t.Args, tellTerm)...), " ") + ")"
}

func tellValue(v api.Value) string {
	switch v.Kind {
	case api.Int:
		return "#" + strconv.FormatInt(v.N, 10)
	case api.Text:
		return "'" + v.S + "'"
	case api.Bool:
		return strconv.FormatBool(v.N == 1)
	}
	return "null"
}
