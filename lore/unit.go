package lore

import (
	"math"

	"sluice/api"
	"sluice/grain"
)

// The float32 of these powers are exact: the first that is no int, and the least that is one.
const (
	aboveInts = 0x1p63
	leastReal = -0x1p63
)

// does is what an operation makes of its operands' words; one that has a single operand looks at x alone.
type does func(x, y uint64) (uint64, api.Errno)

// unit has, by loom's numbers of them, what the operations do.
type unit [api.OpToInt + 1]does

// newUnit is made anew by each call that needs one: functions can't lie at package level.
func newUnit() *unit {
	u := new(unit)
	u.layInts()
	u.layBits()
	u.layReals()
	u.layTests()
	return u
}

func (u *unit) layInts() {
	u[api.OpAddI] = checked(grain.Add)
	u[api.OpSubI] = checked(grain.Sub)
	u[api.OpMulI] = checked(grain.Mul)
	u[api.OpQuoI] = checked(grain.Quo)
	u[api.OpRemI] = checked(grain.Rem)
	u[api.OpNegI] = checked(func(x, _ int64) (int64, api.Errno) { return grain.Neg(x) })
	u[api.OpAbsI] = checked(func(x, _ int64) (int64, api.Errno) {
		if x < 0 {
			return grain.Neg(x)
		}
		return x, api.OK
	})
	u[api.OpMinI] = checked(func(x, y int64) (int64, api.Errno) { return min(x, y), api.OK })
	u[api.OpMaxI] = checked(func(x, y int64) (int64, api.Errno) { return max(x, y), api.OK })
	u[api.OpToReal] = func(x, _ uint64) (uint64, api.Errno) { return realWord(float32(int64(x))) }
	u[api.OpToInt] = func(x, _ uint64) (uint64, api.Errno) {
		f := grain.Float(uint32(x))
		if f < leastReal || f >= aboveInts {
			return 0, api.ErrTrapInt
		}
		return uint64(int64(f)), api.OK
	}
}

func (u *unit) layBits() {
	u[api.OpAndI] = func(x, y uint64) (uint64, api.Errno) { return x & y, api.OK }
	u[api.OpOrI] = func(x, y uint64) (uint64, api.Errno) { return x | y, api.OK }
	u[api.OpXorI] = func(x, y uint64) (uint64, api.Errno) { return x ^ y, api.OK }
	u[api.OpShl] = func(x, n uint64) (uint64, api.Errno) { return x << n, api.OK }
	u[api.OpShr] = func(x, n uint64) (uint64, api.Errno) { return x >> n, api.OK }
}

// layReals: each result is taken by its bits at once, so no two operations are fused.
func (u *unit) layReals() {
	u[api.OpAddF] = rounded(func(x, y float32) float32 { return x + y })
	u[api.OpSubF] = rounded(func(x, y float32) float32 { return x - y })
	u[api.OpMulF] = rounded(func(x, y float32) float32 { return x * y })
	u[api.OpQuoF] = rounded(func(x, y float32) float32 { return x / y })
	u[api.OpNegF] = func(x, _ uint64) (uint64, api.Errno) { return x ^ signBit, api.OK }
	u[api.OpAbsF] = func(x, _ uint64) (uint64, api.Errno) { return x &^ signBit, api.OK }
	u[api.OpMinF] = func(x, y uint64) (uint64, api.Errno) {
		if rank(y) < rank(x) {
			x = y
		}
		return x, api.OK
	}
	u[api.OpMaxF] = func(x, y uint64) (uint64, api.Errno) {
		if rank(y) > rank(x) {
			x = y
		}
		return x, api.OK
	}
	// A root of 53 bits has more than twice the bits of a float32, so rounding it a second time is as rounding once.
	u[api.OpSqrtF] = rounded(func(x, _ float32) float32 { return float32(math.Sqrt(float64(x))) })
}

func (u *unit) layTests() {
	u[api.OpEqI] = func(x, y uint64) (uint64, api.Errno) { return truth(x == y), api.OK }
	u[api.OpLtI] = func(x, y uint64) (uint64, api.Errno) { return truth(int64(x) < int64(y)), api.OK }
	u[api.OpLeI] = func(x, y uint64) (uint64, api.Errno) { return truth(int64(x) <= int64(y)), api.OK }
	u[api.OpEqF] = tested(func(x, y float32) bool { return x == y })
	u[api.OpLtF] = tested(func(x, y float32) bool { return x < y })
	u[api.OpLeF] = tested(func(x, y float32) bool { return x <= y })
	u[api.OpEqB] = func(x, y uint64) (uint64, api.Errno) { return truth(x == y), api.OK }
	u[api.OpAnd] = func(x, y uint64) (uint64, api.Errno) { return x & y, api.OK }
	u[api.OpOr] = func(x, y uint64) (uint64, api.Errno) { return x | y, api.OK }
	u[api.OpNot] = func(x, _ uint64) (uint64, api.Errno) { return 1 - x, api.OK }
}

// checked is an operation on ints.
func checked(f func(x, y int64) (int64, api.Errno)) does {
	return func(x, y uint64) (uint64, api.Errno) {
		n, err := f(int64(x), int64(y))
		switch err {
		case api.ErrBeyond:
			return 0, api.ErrTrapInt
		case api.ErrByZero:
			return 0, api.ErrTrapZero
		}
		return uint64(n), api.OK
	}
}

// rounded is an operation on reals.
func rounded(f func(x, y float32) float32) does {
	return func(x, y uint64) (uint64, api.Errno) {
		return realWord(f(grain.Float(uint32(x)), grain.Float(uint32(y))))
	}
}

// realWord is the word of a real that was reckoned, unless it is none.
func realWord(x float32) (uint64, api.Errno) {
	bits := grain.Bits(x)
	if grain.Class(bits) == api.FloatNaN {
		return 0, api.ErrTrapReal
	}
	return uint64(bits), api.OK
}

// tested is a test of reals.
func tested(f func(x, y float32) bool) does {
	return func(x, y uint64) (uint64, api.Errno) {
		return truth(f(grain.Float(uint32(x)), grain.Float(uint32(y)))), api.OK
	}
}

func rank(x uint64) int64 { return grain.Rank(uint32(x)) }
