package grain

import (
	"math"
	"math/bits"

	"sluice/api"
)

// Add, Sub, Mul, Neg, Quo, Rem reckon with int64, checked (P1.13).
func Add(a, b int64) (int64, api.Errno) {
	sum := a + b
	if (sum > a) != (b > 0) {
		return 0, api.ErrBeyond
	}
	return sum, api.OK
}

// Sub: see Add.
func Sub(a, b int64) (int64, api.Errno) {
	difference := a - b
	if (difference < a) != (b > 0) {
		return 0, api.ErrBeyond
	}
	return difference, api.OK
}

// Mul: see Add.
func Mul(a, b int64) (int64, api.Errno) {
	if a == 0 || b == 0 {
		return 0, api.OK
	}
	if a == -1 { // the check below divides by a, and that may wrap round too
		return Neg(b)
	}
	product := a * b
	if product/a != b {
		return 0, api.ErrBeyond
	}
	return product, api.OK
}

// Neg: see Add.
func Neg(a int64) (int64, api.Errno) {
	if a == math.MinInt64 {
		return 0, api.ErrBeyond
	}
	return -a, api.OK
}

// Quo: see Add.
func Quo(a, b int64) (int64, api.Errno) {
	switch b {
	case 0:
		return 0, api.ErrByZero
	case -1:
		return Neg(a)
	}
	return a / b, api.OK
}

// Rem: see Add.
func Rem(a, b int64) (int64, api.Errno) {
	switch b {
	case 0:
		return 0, api.ErrByZero
	case -1:
		return 0, api.OK
	}
	return a % b, api.OK
}

// Total adds up whole numbers, exactly (P1.14).
func Total(xs ...int64) (int64, api.Errno) {
	var high, low uint64 // one number of 128 bits: no list is long enough to leave it
	for _, x := range xs {
		var carry uint64
		low, carry = bits.Add64(low, uint64(x), 0)
		high += uint64(x>>63) + carry
	}
	total := int64(low)
	if high != uint64(total>>63) {
		return 0, api.ErrBeyond
	}
	return total, api.OK
}
