package grain

import (
	"math"
	"math/bits"

	"sluice/api"
)

const (
	signBit      = 1 << 31
	infinity     = 0xff << 23
	fractionBits = 23
	fractionMask = 1<<fractionBits - 1
	leastPower   = -149 // of two: the least positive float32
)

// Bits tells a float32's bits (P1.4).
func Bits(x float32) uint32 { return math.Float32bits(x) }

// Float tells the float32 of these bits (P1.4).
func Float(u uint32) float32 { return math.Float32frombits(u) }

// Class tells what kind of float32 it is (P1.5).
func Class(u uint32) int {
	switch size := u &^ signBit; {
	case size == 0:
		return api.FloatZero
	case size <= fractionMask:
		return api.FloatSub
	case size < infinity:
		return api.FloatNormal
	case size == infinity:
		return api.FloatInf
	}
	return api.FloatNaN
}

// Rank tells its place in the total order (P1.6).
func Rank(u uint32) int64 {
	if u < signBit {
		return int64(u)
	}
	return -1 - int64(u-signBit)
}

// OfRank tells which float32 has this place (P1.6).
func OfRank(r int64) (uint32, api.Errno) {
	switch {
	case r < math.MinInt32 || r > math.MaxInt32:
		return 0, api.ErrFit
	case r < 0:
		return signBit + uint32(-1-r), api.OK
	}
	return uint32(r), api.OK
}

// Parts takes a finite float32 apart (P1.7).
func Parts(u uint32) (neg bool, m uint32, e int, err api.Errno) {
	size := u &^ signBit
	if size >= infinity {
		return false, 0, 0, api.ErrNoReal
	}
	neg = u >= signBit
	if size == 0 {
		return neg, 0, 0, api.OK
	}
	m, e = size&fractionMask, leastPower
	if exponent := int(size >> fractionBits); exponent > 0 {
		m |= 1 << fractionBits
		e += exponent - 1
	}
	even := bits.TrailingZeros32(m)
	return neg, m >> even, e + even, api.OK
}

// Round tells the float32 nearest to m * 2^e (P1.8).
func Round(neg bool, m uint64, e int) uint32 {
	var sign uint32
	if neg {
		sign = signBit
	}
	switch { // e may be any number: those that decide alone go no further
	case m == 0 || e < -300:
		return sign
	case e > 200:
		return sign | infinity
	}
	last := max(e+bits.Len64(m)-1-fractionBits, leastPower)
	size := uint64(last-leastPower)<<fractionBits + nearest(m, last-e) // a carry, or the leading bit, goes into the exponent
	return sign | uint32(min(size, infinity))
}

// nearest tells m without its low bits, so many of them, rounded to the nearest (a tie: to the even one); below 0 it is as many bits longer.
func nearest(m uint64, drop int) uint64 {
	if drop <= 0 {
		return m << -drop
	}
	if drop > 64 {
		return 0
	}
	kept, half := m>>drop, uint64(1)<<(drop-1)
	rest := m - kept<<drop
	if rest > half || rest == half && kept&1 == 1 {
		kept++
	}
	return kept
}
