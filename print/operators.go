package print

import "touchmark/api"

// The precedences, from the operators that bind least on.
const (
	orLevel = iota + 1
	andLevel
	notLevel
	testLevel
	sumLevel
	productLevel
	aheadLevel
	oneLevel
)

// operator is how expressions of an Op are represented: their keyword or symbol, and how tightly they bind.
type operator struct {
	text  string
	level int
}

var operators = [...]operator{
	api.OpValue:     {"", oneLevel},
	api.OpName:      {"", oneLevel},
	api.OpNeg:       {"-", aheadLevel},
	api.OpAdd:       {"+", sumLevel},
	api.OpSub:       {"-", sumLevel},
	api.OpMul:       {"*", productLevel},
	api.OpDiv:       {"/", productLevel},
	api.OpRem:       {"%", productLevel},
	api.OpEq:        {"=", testLevel},
	api.OpNe:        {"<>", testLevel},
	api.OpLt:        {"<", testLevel},
	api.OpLe:        {"<=", testLevel},
	api.OpGt:        {">", testLevel},
	api.OpGe:        {">=", testLevel},
	api.OpNot:       {"not", notLevel},
	api.OpAnd:       {"and", andLevel},
	api.OpOr:        {"or", orLevel},
	api.OpIsNull:    {"is null", testLevel},
	api.OpNotNull:   {"is not null", testLevel},
	api.OpCountAll:  {"count", oneLevel},
	api.OpCount:     {"count", oneLevel},
	api.OpSum:       {"sum", oneLevel},
	api.OpMin:       {"min", oneLevel},
	api.OpMax:       {"max", oneLevel},
	api.OpExists:    {"exists", oneLevel},
	api.OpNotExists: {"not exists", notLevel},
	api.OpIn:        {"in", testLevel},
	api.OpNotIn:     {"not in", testLevel},
}

// parts returns how many elements of Args and of Query an expression has, or false if there is none with this Op.
func parts(op int) (args, queries int, ok bool) {
	switch op {
	case api.OpValue, api.OpName, api.OpCountAll:
		return 0, 0, true
	case api.OpNeg, api.OpNot, api.OpIsNull, api.OpNotNull,
		api.OpCount, api.OpSum, api.OpMin, api.OpMax:
		return 1, 0, true
	case api.OpAdd, api.OpSub, api.OpMul, api.OpDiv, api.OpRem,
		api.OpEq, api.OpNe, api.OpLt, api.OpLe, api.OpGt, api.OpGe,
		api.OpAnd, api.OpOr:
		return 2, 0, true
	case api.OpExists, api.OpNotExists:
		return 0, 1, true
	case api.OpIn, api.OpNotIn:
		return 1, 1, true
	}
	return 0, 0, false
}
