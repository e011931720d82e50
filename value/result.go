package value

import "touchmark/api"

// Result returns the kind of the result of an operator or an aggregate function for operands of the kinds a and b, or the error; b is ignored if there is a single operand, both are for OpCountAll.
func Result(op int, a, b int) (int, api.Errno) {
	if op == api.OpCountAll {
		return api.Int, api.OK
	}
	if takesOne(op) {
		b = a
	}
	if !isKind(a) || !isKind(b) {
		return 0, api.ErrArg
	}
	switch {
	case calculates(op), op == api.OpSum:
		return kindIf(allOf(api.Int, a, b), api.Int)
	case compares(op):
		return kindIf(sameKind(a, b), api.Bool)
	}
	switch op {
	case api.OpNot, api.OpAnd, api.OpOr:
		return kindIf(allOf(api.Bool, a, b), api.Bool)
	case api.OpIsNull, api.OpNotNull:
		return api.Bool, api.OK
	case api.OpCount:
		return api.Int, api.OK
	case api.OpMin, api.OpMax:
		return a, api.OK
	}
	return 0, api.ErrArg
}

func isKind(k int) bool {
	return k >= api.Null && k <= api.Bool
}

// kindIf returns a kind if the operands' kinds are right.
func kindIf(right bool, kind int) (int, api.Errno) {
	if !right {
		return 0, api.ErrKind
	}
	return kind, api.OK
}

// allOf returns whether each of some kinds is the wanted one or Null.
func allOf(wanted int, kinds ...int) bool {
	for _, k := range kinds {
		if k != wanted && k != api.Null {
			return false
		}
	}
	return true
}

// sameKind returns whether two kinds are the same, or one of them is Null.
func sameKind(a, b int) bool {
	return a == b || a == api.Null || b == api.Null
}
