package value_test

import (
	"math"
	"math/big"
	"slices"
	"strings"

	"touchmark/api"
)

var (
	null = api.Value{}
	no   = api.Value{Kind: api.Bool}
	yes  = api.Value{Kind: api.Bool, N: 1}
)

func number(n int64) api.Value { return api.Value{Kind: api.Int, N: n} }

func text(s string) api.Value { return api.Value{Kind: api.Text, S: s} }

func truth(b bool) api.Value {
	if b {
		return yes
	}
	return no
}

// ascending are valid values, each less than the next one.
func ascending() []api.Value {
	l := []api.Value{null}
	for _, n := range []int64{math.MinInt64, math.MinInt64 + 1, -1 << 32, -3037000500, -1<<31 - 1, -1 << 31, -257, -256, -7, -2, -1, 0, 1, 2, 7, 255, 256, 1<<31 - 1, 1 << 31, 3037000499, 3037000500, 1<<32 - 1, 1 << 32, 1 << 62, math.MaxInt64 - 1, math.MaxInt64} {
		l = append(l, number(n))
	}
	for _, s := range []string{"", "\x00", "\x00\x00", "\x00\xff", "\x01", "-1", "A", "a", "a\x00", "a\x01", "a ", strings.Repeat("a", 63), strings.Repeat("a", 64), "ab", "b", "\x7f", "\x80", "\xc3", "é", "\xff", "\xff\x00", strings.Repeat("\xff", 64)} {
		l = append(l, text(s))
	}
	return append(l, no, yes)
}

// odd is a value that is not valid, and the one that it counts as.
type odd struct{ v, as api.Value }

// oddValues are not valid, in each of the ways in which a value can't be; of a string that is too long, all bytes count.
func oddValues() []odd {
	long := strings.Repeat("a", 65)
	l := []odd{
		{api.Value{Kind: api.Null, N: 1}, null}, {api.Value{Kind: api.Null, N: math.MinInt64}, null}, {api.Value{Kind: api.Null, S: "a"}, null}, {api.Value{Kind: api.Null, S: "\x00"}, null}, {api.Value{Kind: api.Null, N: -1, S: long}, null},
		{api.Value{Kind: api.Int, S: "a"}, number(0)}, {api.Value{Kind: api.Int, N: 5, S: "\x00"}, number(5)}, {api.Value{Kind: api.Int, N: math.MinInt64, S: long}, number(math.MinInt64)},
		{api.Value{Kind: api.Text, N: 1}, text("")}, {api.Value{Kind: api.Text, N: -1, S: "a"}, text("a")}, {api.Value{Kind: api.Text, N: math.MaxInt64, S: "b"}, text("b")},
		{text(long), text(long)}, {text(long + "b"), text(long + "b")}, {text(strings.Repeat("\x00", 300)), text(strings.Repeat("\x00", 300))}, {text(strings.Repeat("é", 33)), text(strings.Repeat("é", 33))}, {api.Value{Kind: api.Text, N: 2, S: long}, text(long)},
		{api.Value{Kind: api.Bool, S: "a"}, no}, {api.Value{Kind: api.Bool, N: 1, S: "a"}, yes},
	}
	for _, n := range []int64{2, -1, 255, 256, 1 << 32, math.MinInt64, math.MaxInt64} {
		l = append(l, odd{api.Value{Kind: api.Bool, N: n}, yes})
	}
	for _, k := range []int{4, 5, -1, 255, 256, 257, 258, 259, 1 << 32, 1<<32 + 1, math.MinInt, math.MinInt + 1, math.MaxInt} {
		l = append(l, odd{api.Value{Kind: k}, null}, odd{api.Value{Kind: k, N: 1, S: "a"}, null})
	}
	return l
}

// all are the values of both lists, each with the one that it counts as.
func all() []odd {
	var l []odd
	for _, v := range ascending() {
		l = append(l, odd{v, v})
	}
	return append(l, oddValues()...)
}

// ops are all operators and aggregate functions, and numbers that are neither.
func ops() []int {
	l := []int{math.MinInt, math.MaxInt, 255, 1<<32 + api.OpAdd}
	for op := -3; op < 40; op++ {
		l = append(l, op)
	}
	return l
}

func isUnary(op int) bool {
	return slices.Contains([]int{api.OpNeg, api.OpNot, api.OpIsNull, api.OpNotNull}, op)
}

func isArithmetic(op int) bool {
	return slices.Contains([]int{api.OpNeg, api.OpAdd, api.OpSub, api.OpMul, api.OpDiv, api.OpRem}, op)
}

func isComparison(op int) bool {
	return slices.Contains([]int{api.OpEq, api.OpNe, api.OpLt, api.OpLe, api.OpGt, api.OpGe}, op)
}

func isBinary(op int) bool {
	return isArithmetic(op) && op != api.OpNeg || isComparison(op) || op == api.OpAnd || op == api.OpOr
}

// modelCompare is the chapter's order, of values as they count.
func modelCompare(a, b api.Value) int {
	class := func(v api.Value) int {
		return []int{api.Null: 0, api.Int: 1, api.Text: 2, api.Bool: 3 + int(v.N&1)}[v.Kind]
	}
	switch {
	case class(a) != class(b):
		return big.NewInt(int64(class(a))).Cmp(big.NewInt(int64(class(b))))
	case a.Kind == api.Int:
		return big.NewInt(a.N).Cmp(big.NewInt(b.N))
	case a.Kind == api.Text:
		return slices.Compare([]byte(a.S), []byte(b.S))
	}
	return 0
}

// modelDo is P8.3, rule by rule, of values as they count.
func modelDo(op int, a, b api.Value) (api.Value, api.Errno) {
	maybeBool := func(v api.Value) bool { return v == null || v.Kind == api.Bool }
	switch {
	case !isUnary(op) && !isBinary(op):
		return null, api.ErrArg
	case op == api.OpIsNull:
		return truth(a == null), api.OK
	case op == api.OpNotNull:
		return truth(a != null), api.OK
	case op == api.OpNot && a == null:
		return null, api.OK
	case op == api.OpNot && a.Kind != api.Bool:
		return null, api.ErrKind
	case op == api.OpNot:
		return truth(a == no), api.OK
	case op == api.OpAnd || op == api.OpOr:
		if !maybeBool(a) || !maybeBool(b) {
			return null, api.ErrKind
		}
		return modelLogic(op, a, b), api.OK
	}
	return modelCompute(op, a, b)
}

// modelLogic is the rest of rule 3.
func modelLogic(op int, a, b api.Value) api.Value {
	switch {
	case op == api.OpAnd && (a == no || b == no):
		return no
	case op == api.OpOr && (a == yes || b == yes):
		return yes
	case a == null || b == null:
		return null
	}
	return truth(op == api.OpAnd)
}

// modelCompute is rules 4 to 6.
func modelCompute(op int, a, b api.Value) (api.Value, api.Errno) {
	if isUnary(op) {
		b = number(0)
	}
	if a == null || b == null {
		for _, v := range []api.Value{a, b} {
			if isArithmetic(op) && v != null && v.Kind != api.Int {
				return null, api.ErrKind
			}
		}
		return null, api.OK
	}
	if isComparison(op) {
		if a.Kind != b.Kind {
			return null, api.ErrKind
		}
		c := modelCompare(a, b)
		return truth(map[int]bool{api.OpEq: c == 0, api.OpNe: c != 0, api.OpLt: c < 0, api.OpLe: c < 1, api.OpGt: c > 0, api.OpGe: c > -1}[op]), api.OK
	}
	if a.Kind != api.Int || b.Kind != api.Int {
		return null, api.ErrKind
	}
	if (op == api.OpDiv || op == api.OpRem) && b.N == 0 {
		return null, api.ErrDivide
	}
	return fitting(exact(op, big.NewInt(a.N), big.NewInt(b.N)))
}

func exact(op int, a, b *big.Int) *big.Int {
	n := new(big.Int)
	switch op {
	case api.OpNeg:
		return n.Neg(a)
	case api.OpAdd:
		return n.Add(a, b)
	case api.OpSub:
		return n.Sub(a, b)
	case api.OpMul:
		return n.Mul(a, b)
	case api.OpDiv:
		return n.Quo(a, b)
	}
	return n.Rem(a, b)
}

func fitting(n *big.Int) (api.Value, api.Errno) {
	if !n.IsInt64() {
		return null, api.ErrOverflow
	}
	return number(n.Int64()), api.OK
}

// modelFold is P8.4, of values as they count.
func modelFold(op int, l []api.Value) (api.Value, api.Errno) {
	var known []api.Value
	for _, v := range l {
		if v != null {
			known = append(known, v)
		}
	}
	switch op {
	case api.OpCountAll:
		return number(int64(len(l))), api.OK
	case api.OpCount:
		return number(int64(len(known))), api.OK
	case api.OpSum, api.OpMin, api.OpMax:
		if len(known) == 0 {
			return null, api.OK
		}
	default:
		return null, api.ErrArg
	}
	if op == api.OpSum {
		return modelSum(known)
	}
	for _, v := range known {
		for _, w := range known {
			if v.Kind != w.Kind {
				return null, api.ErrKind
			}
		}
	}
	if op == api.OpMin {
		return slices.MinFunc(known, modelCompare), api.OK
	}
	return slices.MaxFunc(known, modelCompare), api.OK
}

func modelSum(known []api.Value) (api.Value, api.Errno) {
	total := new(big.Int)
	for _, v := range known {
		if v.Kind != api.Int {
			return null, api.ErrKind
		}
		total.Add(total, big.NewInt(v.N))
	}
	return fitting(total)
}
