package mean

import (
	"touchmark/api"
	"touchmark/value"
)

// failures is the errors that occurred up to now, of which the smallest one counts.
type failures struct{ smallest api.Errno }

// note takes notice of what a computation returned.
func (f *failures) note(e api.Errno) {
	if e != api.OK && (f.smallest == api.OK || e < f.smallest) {
		f.smallest = e
	}
}

// term returns the value of a term over a row; that of an operation with an error is NULL.
func (f *failures) term(t api.Term, r api.Row) api.Value {
	switch t.Op {
	case api.OpValue:
		return t.Value
	case api.OpColumn:
		if t.Col < 0 || t.Col >= len(r) {
			return api.Value{}
		}
		return r[t.Col]
	}
	n := operands(t.Op)
	if n == 0 {
		f.note(api.ErrArg)
		return api.Value{}
	}
	var both [2]api.Value
	for i, a := range t.Args {
		v := f.term(a, r)
		if i < len(both) {
			both[i] = v
		}
	}
	if len(t.Args) != n {
		f.note(api.ErrArg)
		return api.Value{}
	}
	v, e := value.Do(t.Op, both[0], both[1])
	f.note(e)
	return v // beside an error it is NULL
}

// terms returns the values of terms over a row.
func (f *failures) terms(l []api.Term, r api.Row) api.Row {
	values := make(api.Row, 0, len(l))
	for _, t := range l {
		values = append(values, f.term(t, r))
	}
	return values
}

// isTrue returns whether a condition is true for a row.
func (f *failures) isTrue(t api.Term, r api.Row) bool {
	return f.term(t, r) == api.Value{Kind: api.Bool, N: 1}
}

// operands returns how many operands an operation takes, or 0 if it is neither a unary nor a binary one.
func operands(op int) int {
	switch op {
	case api.OpNeg, api.OpNot, api.OpIsNull, api.OpNotNull:
		return 1
	case api.OpAdd, api.OpSub, api.OpMul, api.OpDiv, api.OpRem,
		api.OpEq, api.OpNe, api.OpLt, api.OpLe, api.OpGt, api.OpGe,
		api.OpAnd, api.OpOr:
		return 2
	}
	return 0
}
