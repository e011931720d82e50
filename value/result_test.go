package value_test

import (
	"math"
	"testing"

	"touchmark/api"
	"touchmark/value"
)

func wantResult(t *testing.T, op, a, b, want int, e api.Errno) {
	t.Helper()
	if k, ge := value.Result(op, a, b); k != want || ge != e {
		t.Errorf("Result %d, %d, %d: %d, %d, want %d, %d", op, a, b, k, ge, want, e)
	}
}

// notKinds are numbers of no kind.
func notKinds() []int {
	return []int{-1, 4, 5, 255, 256, 257, 1 << 32, 1<<32 + 1, math.MinInt, math.MaxInt}
}

// P8.5: the operators of two operands, with each pair of kinds. A row's letters tell the results for the kinds Null, Int, Text and Bool of a, a letter for each kind of b: i Int, b Bool, and - ErrKind.
func TestResult(t *testing.T) {
	arithmetic := [4]string{"ii--", "ii--", "----", "----"}
	comparison := [4]string{"bbbb", "bb--", "b-b-", "b--b"}
	logic := [4]string{"b--b", "----", "----", "b--b"}
	for op, table := range map[int][4]string{
		api.OpAdd: arithmetic, api.OpSub: arithmetic, api.OpMul: arithmetic, api.OpDiv: arithmetic, api.OpRem: arithmetic,
		api.OpEq: comparison, api.OpNe: comparison, api.OpLt: comparison, api.OpLe: comparison, api.OpGt: comparison, api.OpGe: comparison,
		api.OpAnd: logic, api.OpOr: logic,
	} {
		for a, line := range table {
			for b, letter := range line {
				want, e := told(letter)
				wantResult(t, op, a, b, want, e)
			}
			for _, k := range notKinds() {
				wantResult(t, op, a, k, 0, api.ErrArg)
				wantResult(t, op, k, a, 0, api.ErrArg)
				wantResult(t, op, k, k, 0, api.ErrArg)
			}
		}
	}
}

// told is what a letter of the tables means.
func told(letter rune) (int, api.Errno) {
	switch letter {
	case 'i':
		return api.Int, api.OK
	case 't':
		return api.Text, api.OK
	case 'b':
		return api.Bool, api.OK
	case 'n':
		return api.Null, api.OK
	}
	return 0, api.ErrKind
}

// P8.5: the operators and aggregate functions of one operand, with each kind, a letter for each; b is ignored.
func TestResultUnary(t *testing.T) {
	for op, line := range map[int]string{
		api.OpNeg: "ii--", api.OpNot: "b--b", api.OpIsNull: "bbbb", api.OpNotNull: "bbbb",
		api.OpCount: "iiii", api.OpSum: "ii--", api.OpMin: "nitb", api.OpMax: "nitb",
	} {
		for _, b := range append(notKinds(), 0, 1, 2, 3) {
			for a, letter := range line {
				want, e := told(letter)
				wantResult(t, op, a, b, want, e)
			}
			for _, a := range notKinds() {
				wantResult(t, op, a, b, 0, api.ErrArg)
			}
		}
	}
}

// P8.5: for OpCountAll both kinds are ignored.
func TestResultCountAll(t *testing.T) {
	kinds := append(notKinds(), 0, 1, 2, 3)
	for _, a := range kinds {
		for _, b := range kinds {
			wantResult(t, api.OpCountAll, a, b, api.Int, api.OK)
		}
	}
}

// P8.5: what is no operator and no aggregate function, whatever the kinds are.
func TestResultUnknown(t *testing.T) {
	kinds := append(notKinds(), 0, 1, 2, 3)
	for _, op := range ops() {
		if isUnary(op) || isBinary(op) || op >= api.OpCountAll && op <= api.OpMax {
			continue
		}
		for _, a := range kinds {
			for _, b := range kinds {
				wantResult(t, op, a, b, 0, api.ErrArg)
			}
		}
	}
}

// P8.6: where Result returns a kind, Do returns a value of it, NULL, ErrDivide or ErrOverflow; where it does not, Do returns the same error for values of these kinds that are not NULL.
func TestResultOfDo(t *testing.T) {
	values := ascending()
	for _, op := range ops() {
		if !isUnary(op) && !isBinary(op) {
			continue
		}
		for _, a := range values {
			for _, b := range values {
				kind, wrong := value.Result(op, a.Kind, b.Kind)
				v, e := value.Do(op, a, b)
				switch {
				case wrong != api.OK:
					wantDo(t, op, a, b, null, wrong)
				case e == api.ErrDivide || e == api.ErrOverflow:
				case e != api.OK || !value.May(v) || v.Kind != kind && v != null:
					t.Errorf("%d of %+v, %+v: %+v, %d, but the kind is %d", op, a, b, v, e, kind)
				}
			}
		}
	}
}

// P8.6: a NULL can stand for a value of any kind.
func TestResultOfDoWithNull(t *testing.T) {
	values := ascending()
	for _, op := range ops() {
		for _, a := range values {
			for _, b := range values {
				kind, e := value.Result(op, a.Kind, b.Kind)
				if e != api.OK || !isUnary(op) && !isBinary(op) {
					continue
				}
				for _, pair := range [][2]api.Value{{null, b}, {a, null}, {null, null}} {
					if v, e := value.Do(op, pair[0], pair[1]); e != api.OK && e != api.ErrOverflow || v.Kind != kind && v != null {
						t.Errorf("%d of %+v: %+v, %d, but the kind is %d", op, pair, v, e, kind)
					}
				}
			}
		}
	}
}

// The results of aggregate functions have the kinds that Result tells.
func TestResultOfFold(t *testing.T) {
	for op := api.OpCountAll; op <= api.OpMax; op++ {
		for _, v := range ascending() {
			kind, wrong := value.Result(op, v.Kind, 0)
			got, e := value.Fold(op, []api.Value{null, v})
			if e != wrong || e == api.OK && got.Kind != kind && got != null {
				t.Errorf("%d of %+v: %+v, %d, but the kind is %d, %d", op, v, got, e, kind, wrong)
			}
		}
	}
}
