package value

import (
	"math"
	"math/bits"

	"touchmark/api"
)

func add(a, b int64) (int64, api.Errno) {
	n := a + b
	if (n > a) != (b > 0) {
		return 0, api.ErrOverflow
	}
	return n, api.OK
}

func subtract(a, b int64) (int64, api.Errno) {
	n := a - b
	if (n < a) != (b > 0) {
		return 0, api.ErrOverflow
	}
	return n, api.OK
}

func multiply(a, b int64) (int64, api.Errno) {
	if a == 0 {
		return 0, api.OK
	}
	n := a * b
	// Go's minimum / -1 is the minimum, so that the quotient would not tell that this product wrapped round.
	if n/a != b || a == -1 && b == math.MinInt64 {
		return 0, api.ErrOverflow
	}
	return n, api.OK
}

func divide(a, b int64) (int64, api.Errno) {
	if b == 0 {
		return 0, api.ErrDivide
	}
	if a == math.MinInt64 && b == -1 {
		return 0, api.ErrOverflow
	}
	return a / b, api.OK
}

func remainder(a, b int64) (int64, api.Errno) {
	if b == 0 {
		return 0, api.ErrDivide
	}
	return a % b, api.OK
}

// wide is an integer of 128 bits, high * 2^64 + low: no sum that can occur is too great for it.
type wide struct {
	high int64
	low  uint64
}

func (w wide) plus(n int64) wide {
	low, carry := bits.Add64(w.low, uint64(n), 0)
	return wide{high: w.high + n>>63 + int64(carry), low: low}
}

// narrow returns the integer if it fits in 64 bits.
func (w wide) narrow() (int64, api.Errno) {
	n := int64(w.low)
	if w.high != n>>63 {
		return 0, api.ErrOverflow
	}
	return n, api.OK
}
