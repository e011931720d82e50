package mean_test

import (
	"math"
	"slices"
	"testing"

	"touchmark/api"
	"touchmark/mean"
	"touchmark/value"
)

func col(i int) api.Term { return api.Term{Op: api.OpColumn, Col: i} }

func val(v api.Value) api.Term { return api.Term{Op: api.OpValue, Value: v} }

func num(n int64) api.Term { return val(number(n)) }

func op(op int, args ...api.Term) api.Term { return api.Term{Op: op, Args: args} }

// wantTerm asks for a term's value over a row, or its error.
func wantTerm(t *testing.T, x api.Term, r api.Row, want api.Value, e api.Errno) {
	t.Helper()
	if v, f := mean.Term(x, r); v != want || f != e {
		t.Errorf("%+v over %s: %s, %d, not %s, %d", x, tell([]api.Row{r}), tellValue(v), f, tellValue(want), e)
	}
}

// failing is a term for each error that an operation can have.
func failing() map[api.Errno]api.Term {
	return map[api.Errno]api.Term{
		api.ErrArg:      op(api.OpSum, num(1)),
		api.ErrKind:     op(api.OpAdd, num(1), val(yes)),
		api.ErrOverflow: op(api.OpNeg, num(math.MinInt64)),
		api.ErrDivide:   op(api.OpDiv, num(1), num(0)),
	}
}

// P14.2: values are as they are, and columns are a row's, or NULL.
func TestLeaves(t *testing.T) {
	r := api.Row{number(5), letters("a"), null, yes, {Kind: 9, N: 3, S: "x"}}
	for _, v := range []api.Value{null, number(0), number(math.MinInt64), letters(""), letters("a\x00"), no, yes, {Kind: 9}, {Kind: -1, N: 2, S: "y"}, {Kind: api.Bool, N: 7}, {N: 1}, {Kind: api.Int, S: "x"}} {
		wantTerm(t, val(v), r, v, api.OK)
		wantTerm(t, col(1), api.Row{null, v}, v, api.OK)
		wantTerm(t, api.Term{Op: api.OpValue, Col: 1, Value: v}, r, v, api.OK)
	}
	for i, v := range r {
		wantTerm(t, col(i), r, v, api.OK)
		wantTerm(t, api.Term{Op: api.OpColumn, Col: i, Value: number(8)}, r, v, api.OK)
	}
	for _, i := range []int{-1, 5, 6, math.MaxInt, math.MinInt} {
		wantTerm(t, col(i), r, null, api.OK)
	}
	wantTerm(t, col(0), nil, null, api.OK)
	wantTerm(t, col(0), api.Row{}, null, api.OK)
	for e, x := range failing() { // what is within them is not evaluated
		wantTerm(t, x, r, null, e)
		wantTerm(t, api.Term{Op: api.OpValue, Value: yes, Args: []api.Term{x}}, r, yes, api.OK)
		wantTerm(t, api.Term{Op: api.OpColumn, Col: 1, Args: []api.Term{x, x}}, r, letters("a"), api.OK)
	}
}

// arity returns how many operands an operation takes, by the lists of chapter 8, or 0.
func arity(op int) int {
	switch {
	case slices.Contains([]int{api.OpNeg, api.OpNot, api.OpIsNull, api.OpNotNull}, op):
		return 1
	case slices.Contains([]int{api.OpAdd, api.OpSub, api.OpMul, api.OpDiv, api.OpRem, api.OpEq, api.OpNe, api.OpLt, api.OpLe, api.OpGt, api.OpGe, api.OpAnd, api.OpOr}, op):
		return 2
	}
	return 0
}

// P14.2: each number of an operation with each number of operands.
func TestOperands(t *testing.T) {
	l := []api.Value{null, number(0), number(-7), number(math.MinInt64), number(-1), letters(""), letters("b"), no, yes, {Kind: 4, N: 1}, {Kind: api.Bool, N: 2, S: "x"}}
	for _, k := range append(numbers(-2, 40), math.MinInt, math.MaxInt) {
		if k == api.OpValue || k == api.OpColumn {
			continue
		}
		r := api.Row{yes, number(3)}
		for n := range 5 {
			for _, v := range l {
				if n == 1 && arity(k) == 1 || n == 2 && arity(k) == 2 {
					continue
				}
				wantTerm(t, op(k, slices.Repeat([]api.Term{val(v)}, n)...), r, null, api.ErrArg)
			}
		}
		for _, a := range l {
			switch arity(k) {
			case 1:
				v, e := value.Do(k, a, null)
				wantTerm(t, op(k, val(a)), r, v, e)
			case 2:
				for _, b := range l {
					v, e := value.Do(k, a, b)
					wantTerm(t, op(k, val(a), val(b)), r, v, e)
					wantTerm(t, op(k, col(0), col(1)), api.Row{a, b}, v, e)
					wantTerm(t, op(k, col(1), val(b)), api.Row{b, a}, v, e)
				}
			}
		}
		wantTerm(t, api.Term{Op: k}, r, null, api.ErrArg)
	}
}

func numbers(from, to int) []int {
	var l []int
	for i := from; i <= to; i++ {
		l = append(l, i)
	}
	return l
}

// P14.2: the error is the smallest one, wherever in a term it occurs; what it occurs in is evaluated all the same, with NULL in its place.
func TestErrorsInTerms(t *testing.T) {
	isNull := func(x api.Term) api.Term { return op(api.OpIsNull, x) }
	for e, a := range failing() {
		for _, x := range []api.Term{
			isNull(a), op(api.OpNotNull, a), op(api.OpNeg, a), op(api.OpNot, a), op(api.OpAdd, a, num(1)), op(api.OpEq, num(1), a), op(api.OpLt, val(letters("a")), a), isNull(isNull(isNull(a))),
			// There is no short cut.
			op(api.OpAnd, val(no), a), op(api.OpAnd, a, val(no)), op(api.OpOr, val(yes), a), op(api.OpOr, a, val(yes)), op(api.OpAnd, val(null), a), op(api.OpMul, num(0), a), op(api.OpMul, val(null), a), op(api.OpOr, val(yes), isNull(op(api.OpOr, val(yes), a))),
			// Its value is NULL, and no operation on it has an error of its own.
			op(api.OpRem, a, num(0)), op(api.OpSub, num(math.MinInt64), a), op(api.OpNot, op(api.OpEq, a, val(letters("x")))),
		} {
			wantTerm(t, x, nil, null, e)
		}
		for f, b := range failing() {
			wantTerm(t, op(api.OpEq, a, b), nil, null, min(e, f))
			wantTerm(t, op(api.OpOr, val(yes), op(api.OpAnd, isNull(a), isNull(b))), nil, null, min(e, f))
			wantTerm(t, op(api.OpAnd, op(api.OpNotNull, a), op(api.OpAnd, val(no), isNull(b))), nil, null, min(e, f))
		}
		// NULL is what the operation around goes on with: with any other value there would be an error that is smaller.
		wantTerm(t, op(api.OpAnd, a, val(yes)), nil, null, e)
		wantTerm(t, op(api.OpAdd, a, num(1)), nil, null, e)
		wantTerm(t, op(api.OpEq, a, val(yes)), nil, null, e)
		wantTerm(t, op(api.OpEq, a, val(letters(""))), nil, null, e)
	}
	wantTerm(t, op(api.OpAnd, op(api.OpIsNull, col(7)), val(yes)), nil, yes, api.OK)
}

// P14.2: with a wrong number of operands, the operands change nothing, since no error is smaller; all of them are evaluated, however many there are.
func TestTooManyOperands(t *testing.T) {
	for _, x := range failing() {
		wantTerm(t, op(api.OpNeg, num(1), x), nil, null, api.ErrArg)
		wantTerm(t, op(api.OpAdd, x), nil, null, api.ErrArg)
		wantTerm(t, op(api.OpAdd, num(1), num(2), x), nil, null, api.ErrArg)
		wantTerm(t, op(api.OpCount, x), nil, null, api.ErrArg)
		wantTerm(t, op(api.OpEq, x, op(api.OpNot)), nil, null, api.ErrArg)
	}
}

// P14.2: terms by chance, with and without errors, against the model.
func TestTermsByChance(t *testing.T) {
	n := map[api.Errno]int{}
	for seed := range 40000 {
		m := newMaker(int64(seed))
		m.spoil, m.left = pick(m, 0, 5, 10), pick(m, 4, 10, 30)
		r := api.Row{m.value(api.Int, true), m.value(api.Text, true), m.value(api.Bool, true), m.value(api.Int, true)}
		x := m.term(m.columnKind(), []int{api.Int, api.Text, api.Bool, api.Int})
		if m.Intn(5) == 0 {
			x = change(m, x)
		}
		var w model
		want := w.term(x, r)
		if w.error() != api.OK {
			want = null
		}
		n[w.error()]++
		wantTerm(t, x, r, want, w.error())
		if t.Failed() {
			t.Fatalf("seed %d", seed)
		}
	}
	wantEnough(t, n, 300, api.OK, api.ErrArg, api.ErrKind, api.ErrOverflow, api.ErrDivide)
}
