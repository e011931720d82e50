package plan

import (
	"touchmark/api"
	"touchmark/value"
)

// columns are what terms refer to, or what they are: their values have a kind, and are nullable or not, as those of columns are.
type columns []api.Column

func (l columns) has(i int) bool { return i >= 0 && i < len(l) }

// terms returns what terms over these columns are, or the first error.
func (l columns) terms(terms []api.Term) (columns, api.Errno) {
	all := make(columns, 0, len(terms))
	for _, t := range terms {
		is, e := l.term(t)
		if e != api.OK {
			return nil, e
		}
		all = append(all, is)
	}
	return all, api.OK
}

func (l columns) term(t api.Term) (api.Column, api.Errno) {
	switch t.Op {
	case api.OpValue:
		return toValue(t)
	case api.OpColumn:
		return l.column(t)
	}
	args, e := l.terms(t.Args)
	if e != api.OK {
		return api.Column{}, e
	}
	if t.Col != 0 || t.Value != (api.Value{}) || isAggregate(t.Op) || len(args) != operands(t.Op) {
		return api.Column{}, api.ErrForm
	}
	return operator(t.Op, args)
}

func toValue(t api.Term) (api.Column, api.Errno) {
	switch {
	case t.Col != 0 || len(t.Args) > 0:
		return api.Column{}, api.ErrForm
	case !value.May(t.Value):
		return api.Column{}, api.ErrKind
	}
	return api.Column{Kind: t.Value.Kind, Nullable: t.Value.Kind == api.Null}, api.OK
}

func (l columns) column(t api.Term) (api.Column, api.Errno) {
	switch {
	case t.Value != (api.Value{}) || len(t.Args) > 0:
		return api.Column{}, api.ErrForm
	case !l.has(t.Col):
		return api.Column{}, api.ErrRange
	}
	return api.Column{Kind: l[t.Col].Kind, Nullable: l[t.Col].Nullable}, api.OK
}

// agg returns what an Agg over rows of these columns is, or its first error.
func (l columns) agg(a api.Agg) (api.Column, api.Errno) {
	args, e := l.terms(a.Args)
	if e != api.OK {
		return api.Column{}, e
	}
	if !isAggregate(a.Op) || len(args) != operands(a.Op) {
		return api.Column{}, api.ErrForm
	}
	return operator(a.Op, args)
}

// operands returns how many operands an operator or an aggregate function has, or -1 if it is neither.
func operands(op int) int {
	switch op {
	case api.OpCountAll:
		return 0
	case api.OpNeg, api.OpNot, api.OpIsNull, api.OpNotNull, api.OpCount, api.OpSum, api.OpMin, api.OpMax:
		return 1
	}
	if op >= api.OpAdd && op <= api.OpOr {
		return 2
	}
	return -1
}

// operator returns what an operator or an aggregate function with the right number of operands is.
func operator(op int, args columns) (api.Column, api.Errno) {
	var both [2]api.Column
	copy(both[:], args)
	kind, e := value.Result(op, both[0].Kind, both[1].Kind)
	if e != api.OK {
		return api.Column{}, e
	}
	return api.Column{Kind: kind, Nullable: isNullable(op, both[0].Nullable || both[1].Nullable)}, api.OK
}

// isNullable returns whether an operator or an aggregate function is nullable, given whether an operand is.
func isNullable(op int, operand bool) bool {
	switch op {
	case api.OpIsNull, api.OpNotNull, api.OpCountAll, api.OpCount:
		return false
	case api.OpSum, api.OpMin, api.OpMax:
		return true
	}
	return operand
}

// agree returns whether values of two kinds can be in one column.
func agree(a, b int) bool { return a == b || a == api.Null || b == api.Null }
