package value

import "touchmark/api"

// The operators are in three maps, of which a call makes the one that it needs: a map is made anew for each call, and a small one in less time.
type (
	calculation func(a, b int64) (int64, api.Errno)
	comparison  func(order int) bool
	decision    func(a, b api.Value) (api.Value, api.Errno)
)

// Do returns the result of an operator, or its error; a unary operator's b is ignored.
func Do(op int, a, b api.Value) (api.Value, api.Errno) {
	a, b = plain(a), plain(b)
	if takesOne(op) {
		b = a
	}
	if calculates(op) {
		return calculations()[op].of(a, b)
	}
	if compares(op) {
		return comparisons()[op].of(a, b)
	}
	if f, ok := decisions()[op]; ok {
		return f(a, b)
	}
	return api.Value{}, api.ErrArg
}

// calculates returns whether an operator is one of integers; api numbers them in a row.
func calculates(op int) bool {
	return op >= api.OpNeg && op <= api.OpRem
}

// compares returns whether an operator is a comparison; api numbers them in a row.
func compares(op int) bool {
	return op >= api.OpEq && op <= api.OpGe
}

// takesOne returns whether an operator or an aggregate function has a single operand.
func takesOne(op int) bool {
	switch op {
	case api.OpNeg, api.OpNot, api.OpIsNull, api.OpNotNull, api.OpCount, api.OpSum, api.OpMin, api.OpMax:
		return true
	}
	return false
}

func calculations() map[int]calculation {
	return map[int]calculation{
		api.OpNeg: func(a, _ int64) (int64, api.Errno) { return subtract(0, a) },
		api.OpAdd: add,
		api.OpSub: subtract,
		api.OpMul: multiply,
		api.OpDiv: divide,
		api.OpRem: remainder,
	}
}

func comparisons() map[int]comparison {
	return map[int]comparison{
		api.OpEq: func(order int) bool { return order == 0 },
		api.OpNe: func(order int) bool { return order != 0 },
		api.OpLt: func(order int) bool { return order < 0 },
		api.OpLe: func(order int) bool { return order <= 0 },
		api.OpGt: func(order int) bool { return order > 0 },
		api.OpGe: func(order int) bool { return order >= 0 },
	}
}

func decisions() map[int]decision {
	return map[int]decision{
		api.OpIsNull:  testNull(true),
		api.OpNotNull: testNull(false),
		api.OpNot:     not,
		api.OpAnd:     decideBy(false),
		api.OpOr:      decideBy(true),
	}
}

func (f calculation) of(a, b api.Value) (api.Value, api.Errno) {
	if !allOf(api.Int, a.Kind, b.Kind) {
		return api.Value{}, api.ErrKind
	}
	if isNull(a) || isNull(b) {
		return api.Value{}, api.OK
	}
	n, e := f(a.N, b.N)
	if e != api.OK {
		return api.Value{}, e
	}
	return integer(n), api.OK
}

func (f comparison) of(a, b api.Value) (api.Value, api.Errno) {
	if !sameKind(a.Kind, b.Kind) {
		return api.Value{}, api.ErrKind
	}
	if isNull(a) || isNull(b) {
		return api.Value{}, api.OK
	}
	return boolean(f(order(a, b))), api.OK
}

func testNull(wanted bool) decision {
	return func(a, _ api.Value) (api.Value, api.Errno) {
		return boolean(isNull(a) == wanted), api.OK
	}
}

func not(a, _ api.Value) (api.Value, api.Errno) {
	if !allOf(api.Bool, a.Kind) {
		return api.Value{}, api.ErrKind
	}
	if isNull(a) {
		return api.Value{}, api.OK
	}
	return boolean(a == boolean(false)), api.OK
}

// decideBy returns the operator whose result is one truth value if an operand has it, whatever the other operand is; the other one if both have that; otherwise NULL.
func decideBy(by bool) decision {
	return func(a, b api.Value) (api.Value, api.Errno) {
		switch {
		case !allOf(api.Bool, a.Kind, b.Kind):
			return api.Value{}, api.ErrKind
		case a == boolean(by) || b == boolean(by):
			return boolean(by), api.OK
		case isNull(a) || isNull(b):
			return api.Value{}, api.OK
		}
		return boolean(!by), api.OK
	}
}
