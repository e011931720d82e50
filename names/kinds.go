package names

import (
	"touchmark/api"
	"touchmark/value"
)

// shape is an expression's kind, and whether it is nullable.
type shape struct {
	kind     int
	nullable bool
}

// place determines the shape of an expression that stands at some place, or its first error: which operators may be there is the place's matter.
type place func(api.Expr) (shape, api.Errno)

// plain is the place for expressions without aggregates: On, Group, the parts of Where, an aggregate's operand, and what statements other than queries store.
func (s sight) plain(x api.Expr) (shape, api.Errno) {
	if isAggregate(x.Op) {
		return shape{}, api.ErrPlace
	}
	return s.inner(x, s.plain)
}

// summed is the place for expressions that may have aggregates in them: Items and Having.
func (s sight) summed(x api.Expr) (shape, api.Errno) {
	if isAggregate(x.Op) {
		return operator(x, s.plain)
	}
	return s.inner(x, s.summed)
}

// inner determines an expression whose operands stand at a given place.
func (s sight) inner(x api.Expr, at place) (shape, api.Errno) {
	switch {
	case x.Op == api.OpValue:
		return shape{x.Value.Kind, x.Value.Kind == api.Null}, api.OK
	case x.Op == api.OpName:
		return s.name(x)
	case hasQuery(x.Op):
		return shape{}, api.ErrPlace
	}
	return operator(x, at)
}

// operator determines an operator of at most two operands, which stand at a given place.
func operator(x api.Expr, at place) (shape, api.Errno) {
	var args [2]shape
	for i, a := range x.Args {
		arg, e := at(a)
		if e != api.OK {
			return shape{}, e
		}
		args[i] = arg
	}
	kind, e := value.Result(x.Op, args[0].kind, args[1].kind)
	if e != api.OK {
		return shape{}, e
	}
	return shape{kind, isNullable(x.Op, args[0].nullable || args[1].nullable)}, api.OK
}

// isNullable returns whether an operator is nullable, given whether an operand is.
func isNullable(op int, operand bool) bool {
	switch op {
	case api.OpIsNull, api.OpNotNull, api.OpCountAll, api.OpCount:
		return false
	case api.OpSum, api.OpMin, api.OpMax:
		return true
	}
	return operand
}

func isAggregate(op int) bool {
	return op >= api.OpCountAll && op <= api.OpMax
}

func hasQuery(op int) bool {
	return op >= api.OpExists && op <= api.OpNotIn
}

// agree returns whether values of two kinds can be in one column.
func agree(a, b int) bool {
	return a == b || a == api.Null || b == api.Null
}

// condition makes a place one for conditions.
func condition(at place) place {
	return func(x api.Expr) (shape, api.Errno) {
		is, e := at(x)
		if e == api.OK && !agree(is.kind, api.Bool) {
			return shape{}, api.ErrKind
		}
		return is, e
	}
}

// every returns the first error of expressions that stand at one place.
func every(l []api.Expr, at place) api.Errno {
	for _, x := range l {
		if _, e := at(x); e != api.OK {
			return e
		}
	}
	return api.OK
}
