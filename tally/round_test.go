package tally_test

import (
	"math"
	"math/big"
	"sort"
	"testing"

	"sluice/api"
	"sluice/grain"
	"sluice/tally"
)

var modes = []int{api.RoundEven, api.RoundZero, api.RoundDown, api.RoundUp}

var wrongModes = []int{-1, 4, 5, 64, 1 << 32, math.MaxInt, math.MinInt}

const beyond = 0x7f800000 // the place where a float32 of 2^128 would stand

// value tells that of bits up to beyond, in units.
func value(size uint32) *big.Int {
	if size == beyond {
		return power(128 + 149)
	}
	return units(size)
}

// nearest tells by a search among all float32 what n / by is rounded to.
func nearest(n *big.Int, by uint64, mode int) (uint32, api.Errno) {
	if n.Sign() == 0 {
		return 0, api.OK
	}
	divisor := new(big.Int).SetUint64(by)
	size := new(big.Int).Abs(n)
	against := func(u uint32) int { return new(big.Int).Mul(value(u), divisor).Cmp(size) }
	above := uint32(sort.Search(beyond, func(u int) bool { return against(uint32(u)) >= 0 }))
	if against(above) < 0 {
		return 0, api.ErrSpan
	}
	u := above
	if against(above) > 0 {
		below := above - 1
		twice := new(big.Int).Lsh(size, 1)
		middle := new(big.Int).Add(value(above), value(below))
		order := twice.Cmp(middle.Mul(middle, divisor))
		down := map[int]bool{api.RoundEven: order < 0 || order == 0 && below%2 == 0, api.RoundZero: true, api.RoundDown: n.Sign() > 0, api.RoundUp: n.Sign() < 0}
		if down[mode] {
			u = below
		}
	}
	if u == beyond {
		return 0, api.ErrSpan
	}
	if n.Sign() < 0 {
		u |= signBit
	}
	return u, api.OK
}

// hard are sums that lie just at, below and above a float32, and in the midst of two.
func hard() []tally.Sum {
	var list []tally.Sum
	for _, u := range finite() {
		if u >= signBit {
			continue
		}
		at, next := value(u), value(u+1)
		middle := new(big.Int).Rsh(new(big.Int).Add(at, next), 1)
		for _, n := range []*big.Int{at, middle} {
			for d := int64(-1); d <= 1; d++ {
				m := new(big.Int).Add(n, big.NewInt(d))
				list = append(list, wrapped(m), wrapped(m.Neg(m)))
			}
		}
	}
	return list
}

// P2.7.
func TestRound(t *testing.T) {
	for _, s := range append(sums(), hard()...) {
		for _, mode := range modes {
			want, e := nearest(integer(s), 1, mode)
			if got, err := s.Round(mode); grain.Bits(got) != want || err != e {
				t.Fatalf("%v by mode %d: %x %v, not %x %v", s, mode, grain.Bits(got), err, want, e)
			}
			if got, err := s.Over(1, mode); grain.Bits(got) != want || err != e {
				t.Fatalf("%v over 1 by mode %d: %x %v, not %x %v", s, mode, grain.Bits(got), err, want, e)
			}
		}
	}
}

// P2.7, examples 2, 3, 4 and 7.
func TestRoundExamples(t *testing.T) {
	half := float32(math.Ldexp(1, 103))
	most := of(t, float(greatestFloat))
	twice := most.Merge(most)
	tie := most.Merge(of(t, half))
	belowTie := tie.Merge(tally.Sum{1}.Neg())
	for _, x := range []struct {
		s    tally.Sum
		mode int
		want uint32
		e    api.Errno
	}{
		{of(t, 16777216, 1), api.RoundEven, 0x4b800000, api.OK}, {of(t, 16777216, 1), api.RoundUp, 0x4b800001, api.OK}, {of(t, 16777216, 1), api.RoundZero, 0x4b800000, api.OK}, {of(t, 16777216, 1), api.RoundDown, 0x4b800000, api.OK},
		{of(t, 16777216, 1, 1), api.RoundEven, 0x4b800001, api.OK}, {of(t, 16777216, 3), api.RoundEven, 0x4b800002, api.OK},
		{of(t, -16777216, -1), api.RoundDown, 0xcb800001, api.OK}, {of(t, -16777216, -1), api.RoundUp, 0xcb800000, api.OK}, {of(t, -16777216, -1), api.RoundZero, 0xcb800000, api.OK}, {of(t, -16777216, -1), api.RoundEven, 0xcb800000, api.OK},
		{of(t, 1e30, 1, -1e30), api.RoundEven, 0x3f800000, api.OK},
		{twice, api.RoundEven, 0, api.ErrSpan}, {twice, api.RoundZero, 0, api.ErrSpan}, {twice, api.RoundDown, 0, api.ErrSpan}, {twice, api.RoundUp, 0, api.ErrSpan},
		{tie, api.RoundEven, 0, api.ErrSpan}, {tie, api.RoundZero, greatestFloat, api.OK}, {tie, api.RoundDown, greatestFloat, api.OK}, {tie, api.RoundUp, 0, api.ErrSpan},
		{tie.Neg(), api.RoundEven, 0, api.ErrSpan}, {tie.Neg(), api.RoundZero, greatestFloat | signBit, api.OK}, {tie.Neg(), api.RoundDown, 0, api.ErrSpan}, {tie.Neg(), api.RoundUp, greatestFloat | signBit, api.OK},
		{belowTie, api.RoundEven, greatestFloat, api.OK}, {belowTie, api.RoundUp, 0, api.ErrSpan}, {belowTie.Neg(), api.RoundEven, greatestFloat | signBit, api.OK},
		{tally.Sum{1}, api.RoundEven, 1, api.OK}, {tally.Sum{1}, api.RoundZero, 1, api.OK}, {tally.Sum{1}.Neg(), api.RoundUp, 1 | signBit, api.OK}, {tally.Sum{0x800000}, api.RoundZero, 0x00800000, api.OK},
		{tally.Sum{}, api.RoundEven, 0, api.OK}, {tally.Sum{}, api.RoundDown, 0, api.OK}, {tally.Sum{}, api.RoundUp, 0, api.OK},
		{least, api.RoundUp, 0, api.ErrSpan}, {least, api.RoundEven, 0, api.ErrSpan}, {greatest, api.RoundZero, 0, api.ErrSpan},
	} {
		if got, e := x.s.Round(x.mode); grain.Bits(got) != x.want || e != x.e {
			t.Errorf("%v by mode %d: %x %v, not %x %v", x.s, x.mode, grain.Bits(got), e, x.want, x.e)
		}
	}
}

// P2.7, P2.8: modes and numbers that may not be; that comes ahead of ErrSpan.
func TestRoundRefuses(t *testing.T) {
	for _, s := range []tally.Sum{{}, {1}, of(t, 1), least, greatest} {
		for _, mode := range wrongModes {
			if x, e := s.Round(mode); grain.Bits(x) != 0 || e != api.ErrArg {
				t.Errorf("Round(%d) of %v: %v %v", mode, s, x, e)
			}
			for _, n := range []uint64{0, 1, 3} {
				if x, e := s.Over(n, mode); grain.Bits(x) != 0 || e != api.ErrArg {
					t.Errorf("Over(%d, %d) of %v: %v %v", n, mode, s, x, e)
				}
			}
		}
		for _, mode := range modes {
			if x, e := s.Over(0, mode); grain.Bits(x) != 0 || e != api.ErrArg {
				t.Errorf("Over(0, %d) of %v: %v %v", mode, s, x, e)
			}
		}
	}
}

// P2.8.
func TestOver(t *testing.T) {
	roll := dice()
	ns := []uint64{1, 2, 3, 4, 5, 6, 7, 10, 1 << 24, 1<<24 + 1, 1<<32 - 1, 1 << 63, 1<<63 + 1, all - 1, all}
	for i, s := range append(sums(), hard()...) {
		n := ns[i%len(ns)]
		if i%3 == 0 {
			n = roll.Uint64()>>roll.IntN(64) | 1
		}
		exact := new(big.Int).Mul(integer(s), new(big.Int).SetUint64(n))
		list := []tally.Sum{s}
		if exact.BitLen() < 380 { // times n, and near it: quotients that lie just at a float32 or in the midst of two
			list = append(list, wrapped(exact), wrapped(new(big.Int).Add(exact, big.NewInt(1))), wrapped(new(big.Int).Sub(exact, big.NewInt(1))))
		}
		for _, s := range list {
			for _, mode := range modes {
				want, e := nearest(integer(s), n, mode)
				if got, err := s.Over(n, mode); grain.Bits(got) != want || err != e {
					t.Fatalf("%v over %d by mode %d: %x %v, not %x %v", s, n, mode, grain.Bits(got), err, want, e)
				}
			}
		}
	}
}

// P2.8: quotients of a few units, where the last place is 2^-149 whatever the size.
func TestOverOfFewUnits(t *testing.T) {
	for k := uint64(0); k < 70; k++ {
		for n := uint64(1); n < 40; n++ {
			for _, s := range []tally.Sum{{k}, tally.Sum{k}.Neg()} {
				for _, mode := range modes {
					want, e := nearest(integer(s), n, mode)
					if got, err := s.Over(n, mode); grain.Bits(got) != want || err != e {
						t.Fatalf("%v over %d by mode %d: %x %v, not %x %v", s, n, mode, grain.Bits(got), err, want, e)
					}
				}
			}
		}
	}
}

// P2.8, example 5; the sign of a quotient that is rounded to 0.
func TestOverExamples(t *testing.T) {
	unit := tally.Sum{1}
	most := of(t, float(greatestFloat))
	for _, x := range []struct {
		s    tally.Sum
		n    uint64
		mode int
		want uint32
		e    api.Errno
	}{
		{of(t, 1), 3, api.RoundEven, 0x3eaaaaab, api.OK}, {of(t, 1), 3, api.RoundZero, 0x3eaaaaaa, api.OK}, {of(t, 1), 0, api.RoundEven, 0, api.ErrArg},
		{unit.Neg(), 3, api.RoundZero, signBit, api.OK}, {unit.Neg(), 3, api.RoundDown, 1 | signBit, api.OK}, {unit.Neg(), 3, api.RoundEven, signBit, api.OK}, {unit.Neg(), 3, api.RoundUp, signBit, api.OK}, {unit, 3, api.RoundDown, 0, api.OK}, {unit, 3, api.RoundUp, 1, api.OK},
		{unit, 2, api.RoundEven, 0, api.OK}, {unit.Neg(), 2, api.RoundEven, signBit, api.OK}, {tally.Sum{3}, 2, api.RoundEven, 2, api.OK}, {unit, all, api.RoundUp, 1, api.OK}, {unit.Neg(), all, api.RoundEven, signBit, api.OK},
		{tally.Sum{}, all, api.RoundUp, 0, api.OK}, {tally.Sum{}, 1, api.RoundDown, 0, api.OK}, {of(t, 6), 4, api.RoundEven, 0x3fc00000, api.OK},
		{most.Merge(most), 2, api.RoundEven, greatestFloat, api.OK}, {least, all, api.RoundEven, 0, api.ErrSpan}, {least, 1 << 63, api.RoundZero, 0, api.ErrSpan}, {most.Times(3), 2, api.RoundZero, 0, api.ErrSpan},
	} {
		if got, e := x.s.Over(x.n, x.mode); grain.Bits(got) != x.want || e != x.e {
			t.Errorf("%v over %d by mode %d: %x %v, not %x %v", x.s, x.n, x.mode, grain.Bits(got), e, x.want, x.e)
		}
	}
}

// P2.13: a sum of one finite number rounds to it, by every mode.
func TestOneNumberRoundsToItself(t *testing.T) {
	for _, u := range finite() {
		want := u
		if u == signBit {
			want = 0
		}
		for _, mode := range modes {
			if got, e := of(t, float(u)).Round(mode); grain.Bits(got) != want || e != api.OK {
				t.Fatalf("%x by mode %d: %x %v", u, mode, grain.Bits(got), e)
			}
		}
	}
}

// P2.14: rounding keeps the order.
func TestRoundKeepsTheOrder(t *testing.T) {
	list := append(sums(), hard()...)
	sort.Slice(list, func(i, j int) bool { return list[i].Compare(list[j]) < 0 })
	for _, mode := range modes {
		before := float32(math.Inf(-1))
		for _, s := range list {
			x, e := s.Round(mode)
			if e != api.OK {
				continue
			}
			if x < before {
				t.Fatalf("mode %d: %v after %v", mode, x, before)
			}
			before = x
		}
	}
}

// P2.14: what the modes give stands around the value, with nothing between.
func TestRoundsStandAround(t *testing.T) {
	for _, s := range append(sums(), hard()...) {
		down, e := s.Round(api.RoundDown)
		up, err := s.Round(api.RoundUp)
		if e != api.OK || err != api.OK {
			continue
		}
		if of(t, down).Compare(s) > 0 || of(t, up).Compare(s) < 0 {
			t.Fatalf("%v: %v to %v", s, down, up)
		}
		if down != up && math.Nextafter32(down, up) != up {
			t.Fatalf("%v: something is between %v and %v", s, down, up)
		}
		for _, mode := range []int{api.RoundEven, api.RoundZero} {
			if x, e := s.Round(mode); x != down && x != up || e != api.OK {
				t.Fatalf("%v by mode %d: %v %v, not %v or %v", s, mode, x, e, down, up)
			}
		}
	}
}
