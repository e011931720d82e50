package value_test

import (
	"math"
	"math/rand"
	"testing"

	"touchmark/api"
	"touchmark/value"
)

func wantDo(t *testing.T, op int, a, b, want api.Value, e api.Errno) {
	t.Helper()
	if v, ge := value.Do(op, a, b); v != want || ge != e {
		t.Errorf("Do %d, %+v, %+v: %+v, %d, want %+v, %d", op, a, b, v, ge, want, e)
	}
}

// P8.3: what is written out in the chapter, and the edges that it names.
func TestDo(t *testing.T) {
	const least, most = math.MinInt64, math.MaxInt64
	for _, c := range []struct {
		op         int
		a, b, want api.Value
		e          api.Errno
	}{
		{api.OpAnd, no, null, no, 0}, {api.OpOr, no, null, null, 0}, {api.OpAnd, number(1), no, null, api.ErrKind},
		{api.OpEq, null, text("a"), null, 0}, {api.OpEq, number(1), text("a"), null, api.ErrKind}, {api.OpLt, text("a"), text("b"), yes, 0},
		{api.OpAdd, null, text("a"), null, api.ErrKind}, {api.OpAdd, null, number(5), null, 0},
		{api.OpDiv, number(-7), number(2), number(-3), 0}, {api.OpRem, number(-7), number(2), number(-1), 0}, {api.OpDiv, number(1), number(0), null, api.ErrDivide}, {api.OpRem, number(least), number(-1), number(0), 0},

		{api.OpNeg, number(5), null, number(-5), 0}, {api.OpNeg, number(0), null, number(0), 0}, {api.OpNeg, number(most), null, number(-most), 0}, {api.OpNeg, number(least), null, null, api.ErrOverflow}, {api.OpNeg, null, text("a"), null, 0}, {api.OpNeg, text("a"), number(1), null, api.ErrKind}, {api.OpNeg, yes, null, null, api.ErrKind},
		{api.OpAdd, number(most), number(1), null, api.ErrOverflow}, {api.OpAdd, number(least), number(-1), null, api.ErrOverflow}, {api.OpAdd, number(most), number(least), number(-1), 0}, {api.OpAdd, number(2), number(3), number(5), 0},
		{api.OpSub, number(least), number(1), null, api.ErrOverflow}, {api.OpSub, number(0), number(least), null, api.ErrOverflow}, {api.OpSub, number(-1), number(least), number(most), 0}, {api.OpSub, number(2), number(3), number(-1), 0},
		{api.OpMul, number(3), number(-4), number(-12), 0}, {api.OpMul, number(least), number(-1), null, api.ErrOverflow}, {api.OpMul, number(-1), number(least), null, api.ErrOverflow}, {api.OpMul, number(least), number(1), number(least), 0}, {api.OpMul, number(0), number(least), number(0), 0}, {api.OpMul, number(least), number(0), number(0), 0}, {api.OpMul, number(1 << 32), number(1 << 32), null, api.ErrOverflow}, {api.OpMul, number(-1 << 31), number(1 << 32), number(least), 0}, {api.OpMul, number(1 << 31), number(1 << 32), null, api.ErrOverflow}, {api.OpMul, number(3037000500), number(3037000500), null, api.ErrOverflow}, {api.OpMul, number(3037000499), number(3037000499), number(9223372030926249001), 0},
		{api.OpDiv, number(7), number(2), number(3), 0}, {api.OpDiv, number(7), number(-2), number(-3), 0}, {api.OpDiv, number(-7), number(-2), number(3), 0}, {api.OpDiv, number(0), number(0), null, api.ErrDivide}, {api.OpDiv, number(least), number(-1), null, api.ErrOverflow}, {api.OpDiv, number(least), number(0), null, api.ErrDivide}, {api.OpDiv, number(least), number(1), number(least), 0}, {api.OpDiv, number(most), number(-1), number(-most), 0}, {api.OpDiv, null, number(0), null, 0}, {api.OpDiv, number(1), null, null, 0}, {api.OpDiv, text("a"), number(0), null, api.ErrKind}, {api.OpDiv, null, yes, null, api.ErrKind},
		{api.OpRem, number(7), number(2), number(1), 0}, {api.OpRem, number(7), number(-2), number(1), 0}, {api.OpRem, number(-7), number(-2), number(-1), 0}, {api.OpRem, number(7), number(0), null, api.ErrDivide}, {api.OpRem, number(least), number(most), number(-1), 0}, {api.OpRem, null, number(0), null, 0}, {api.OpRem, no, number(0), null, api.ErrKind},

		{api.OpEq, number(1), number(1), yes, 0}, {api.OpEq, number(1), number(2), no, 0}, {api.OpEq, null, null, null, 0}, {api.OpEq, text("a"), text("a\x00"), no, 0}, {api.OpEq, yes, yes, yes, 0}, {api.OpEq, yes, number(1), null, api.ErrKind},
		{api.OpNe, number(1), number(1), no, 0}, {api.OpNe, text("a"), text("b"), yes, 0}, {api.OpNe, yes, null, null, 0}, {api.OpNe, text("1"), number(1), null, api.ErrKind},
		{api.OpLt, number(1), number(1), no, 0}, {api.OpLt, number(-1), number(1), yes, 0}, {api.OpLt, no, yes, yes, 0}, {api.OpLt, text("z"), no, null, api.ErrKind}, {api.OpLt, number(2), number(1), no, 0},
		{api.OpLe, number(1), number(1), yes, 0}, {api.OpLe, number(2), number(1), no, 0}, {api.OpLe, text(""), text("\x00"), yes, 0}, {api.OpLe, null, number(1), null, 0},
		{api.OpGt, number(1), number(1), no, 0}, {api.OpGt, number(2), number(1), yes, 0}, {api.OpGt, text("\xff"), text("é"), yes, 0}, {api.OpGt, number(1), number(2), no, 0},
		{api.OpGe, number(1), number(1), yes, 0}, {api.OpGe, no, yes, no, 0}, {api.OpGe, number(1), yes, null, api.ErrKind}, {api.OpGe, number(2), number(1), yes, 0},

		{api.OpNot, yes, null, no, 0}, {api.OpNot, no, text("a"), yes, 0}, {api.OpNot, null, yes, null, 0}, {api.OpNot, number(0), null, null, api.ErrKind}, {api.OpNot, text(""), null, null, api.ErrKind},
		{api.OpIsNull, null, yes, yes, 0}, {api.OpIsNull, number(0), null, no, 0}, {api.OpIsNull, text(""), null, no, 0}, {api.OpNotNull, null, yes, no, 0}, {api.OpNotNull, no, null, yes, 0},

		{0, number(1), number(1), null, api.ErrArg}, {api.OpValue, number(1), number(1), null, api.ErrArg}, {api.OpName, null, null, null, api.ErrArg}, {api.OpColumn, yes, yes, null, api.ErrArg}, {api.OpCountAll, number(1), null, null, api.ErrArg}, {api.OpCount, null, null, null, api.ErrArg}, {api.OpSum, number(1), number(1), null, api.ErrArg}, {api.OpMin, text("a"), text("b"), null, api.ErrArg}, {api.OpMax, text("a"), number(1), null, api.ErrArg}, {api.OpExists, yes, yes, null, api.ErrArg}, {api.OpNotIn, yes, yes, null, api.ErrArg}, {-1, yes, yes, null, api.ErrArg}, {math.MinInt, yes, yes, null, api.ErrArg}, {math.MaxInt, yes, yes, null, api.ErrArg},
	} {
		wantDo(t, c.op, c.a, c.b, c.want, c.e)
	}
}

// P8.3: three-valued logic, whole.
func TestLogic(t *testing.T) {
	for _, c := range []struct{ a, b, and, or api.Value }{
		{no, no, no, no}, {no, null, no, null}, {no, yes, no, yes},
		{null, no, no, null}, {null, null, null, null}, {null, yes, null, yes},
		{yes, no, no, yes}, {yes, null, null, yes}, {yes, yes, yes, yes},
	} {
		wantDo(t, api.OpAnd, c.a, c.b, c.and, api.OK)
		wantDo(t, api.OpOr, c.a, c.b, c.or, api.OK)
	}
	for _, op := range []int{api.OpAnd, api.OpOr} {
		for _, v := range []api.Value{no, null, yes, number(1), text("a")} {
			for _, wrong := range []api.Value{number(0), number(1), text(""), text("true")} {
				wantDo(t, op, v, wrong, null, api.ErrKind)
				wantDo(t, op, wrong, v, null, api.ErrKind)
			}
		}
	}
}

// P8.3: every number of an operator, with every pair of values, valid or not, against the rules.
func TestDoAll(t *testing.T) {
	l := all()
	for _, op := range ops() {
		for _, a := range l {
			for _, b := range l {
				want, e := modelDo(op, a.as, b.as)
				wantDo(t, op, a.v, b.v, want, e)
			}
		}
	}
}

// P8.3: arithmetic of all small integers, and of all that differ little from a power of 2.
func TestArithmetic(t *testing.T) {
	var l []int64
	for n := int64(-20); n <= 20; n++ {
		l = append(l, n)
	}
	for shift := 5; shift < 64; shift++ {
		for n := int64(-1); n <= 1; n++ {
			l = append(l, 1<<shift+n, -1<<shift+n)
		}
	}
	for _, op := range []int{api.OpNeg, api.OpAdd, api.OpSub, api.OpMul, api.OpDiv, api.OpRem} {
		for _, a := range l {
			for _, b := range l {
				want, e := modelDo(op, number(a), number(b))
				wantDo(t, op, number(a), number(b), want, e)
			}
		}
	}
}

// P8.3: integers by chance; a product, and what is nearest to it, are where overflow begins.
func TestArithmeticByChance(t *testing.T) {
	r := rand.New(rand.NewSource(83))
	for range 20000 {
		a, b := int64(r.Uint64())>>r.Intn(64), int64(r.Uint64())>>r.Intn(64)
		if a != 0 && r.Intn(2) == 0 {
			b = math.MaxInt64/a + int64(r.Intn(3)-1)
		}
		for op := api.OpNeg; op <= api.OpRem; op++ {
			want, e := modelDo(op, number(a), number(b))
			wantDo(t, op, number(a), number(b), want, e)
		}
	}
}

// P8.3: a unary operator ignores b, whatever it is.
func TestUnary(t *testing.T) {
	for _, op := range []int{api.OpNeg, api.OpNot, api.OpIsNull, api.OpNotNull} {
		for _, a := range all() {
			want, e := value.Do(op, a.v, null)
			for _, b := range all() {
				wantDo(t, op, a.v, b.v, want, e)
			}
		}
	}
}
