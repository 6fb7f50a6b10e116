package tally

import (
	"sluice/api"
	"sluice/grain"
)

const (
	significant  = 24 // bits of a float32's significand
	fractionBits = 23
	signBit      = 1 << 31
	infinity     = 0xff << fractionBits
)

// Round gives the float32 (P2.7).
func (s Sum) Round(mode int) (float32, api.Errno) { return s.Over(1, mode) }

// Over gives the float32 of the n-th part, rounded once (P2.8).
func (s Sum) Over(n uint64, mode int) (float32, api.Errno) {
	if n == 0 || mode < api.RoundEven || mode > api.RoundUp {
		return 0, api.ErrArg
	}
	neg := s.Sign() < 0
	quotient, left := s.size().parted(n)
	drop := max(quotient.length()-significant, 0)
	kept := quotient.down(drop, 0)[0]
	size := uint64(drop)<<fractionBits + kept // the leading bit goes into the exponent, and so does a carry
	if lost(quotient, left, n, drop).away(mode, neg) {
		size++
	}
	if size >= infinity {
		return 0, api.ErrSpan
	}
	if neg {
		size |= signBit
	}
	return grain.Float(uint32(size)), api.OK
}

// rest is what rounding goes by.
type rest struct {
	last bool // the lowest bit that is kept
	half bool // the first one behind it
	more bool // whether anything is behind that
}

// lost tells what stands behind the places that are kept, of a quotient with left over by: all but its lowest bits, as many as drop.
func lost(quotient Sum, left, by uint64, drop int) rest {
	if drop == 0 {
		return rest{last: quotient[0]&1 == 1, half: left >= by-left, more: left != 0 && left != by-left}
	}
	last, half := quotient.down(drop, 0), quotient.down(drop-1, 0)
	return rest{last: last[0]&1 == 1, half: half[0]&1 == 1, more: left != 0 || half.up(drop-1) != quotient}
}

// away tells whether a mode rounds away from 0.
func (r rest) away(mode int, neg bool) bool {
	modes := [...]func(r rest, neg bool) bool{
		api.RoundEven: func(r rest, neg bool) bool { return r.half && (r.more || r.last) },
		api.RoundZero: func(r rest, neg bool) bool { return false },
		api.RoundDown: func(r rest, neg bool) bool { return neg && (r.half || r.more) },
		api.RoundUp:   func(r rest, neg bool) bool { return !neg && (r.half || r.more) },
	}
	return modes[mode](r, neg)
}
