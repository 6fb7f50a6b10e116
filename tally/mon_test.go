package tally_test

import (
	"math"
	"math/big"
	"testing"

	"sluice/api"
	"sluice/tally"
)

// one tells by chapter 0.4's table what becomes of a word.
func one(m api.Monoid, x, y uint64) uint64 {
	a, b := new(big.Int).SetUint64(x), new(big.Int).SetUint64(y)
	switch m {
	case api.MonMin:
		if b.Cmp(a) < 0 {
			return y
		}
	case api.MonMax:
		if b.Cmp(a) > 0 {
			return y
		}
	case api.MonMinInt:
		if int64(y) < int64(x) {
			return y
		}
	case api.MonMaxInt:
		if int64(y) > int64(x) {
			return y
		}
	case api.MonAdd:
		return new(big.Int).Mod(a.Add(a, b), power(64)).Uint64()
	case api.MonAnd:
		return a.And(a, b).Uint64()
	case api.MonOr:
		return a.Or(a, b).Uint64()
	case api.MonNibbles:
		var z uint64
		for i := 0; i < 64; i += 4 {
			z |= max(x>>i&15, y>>i&15) << i
		}
		return z
	}
	return x
}

var words = []uint64{0, 1, 2, 5, 15, 16, 0x12, 0x21, 1 << 31, 1 << 32, 1<<63 - 1, 1 << 63, 1<<63 + 2, all - 1, all, 0x0123456789abcdef, 0xfedcba9876543210, 0xf0f0f0f0f0f0f0f0, 0x0f0f0f0f0f0f0f0f, 0x8888888888888888, 0x7777777777777777}

// P2.3: every monoid of one word, at every place; the other words stay.
func TestMonOfOneWord(t *testing.T) {
	roll := dice()
	list := words
	for range 30 {
		list = append(list, roll.Uint64(), roll.Uint64()>>roll.IntN(64))
	}
	for m := api.MonNone; m < api.MonTally; m++ {
		for at := range api.StateWords {
			for _, x := range list {
				for _, y := range list {
					s := api.State{10, 20, 30, 40, 50, 60, 70, 80}
					s[at] = x
					want := s
					want[at] = one(m, x, y)
					if got := tally.Mon(m, s, at, y); got != want {
						t.Fatalf("monoid %d at %d of %x and %x: %x, not %x", m, at, x, y, got, want)
					}
				}
			}
		}
	}
}

// P2.3, chapter 0.4: what is neutral changes nothing.
func TestNeutral(t *testing.T) {
	for m, neutral := range map[api.Monoid]uint64{api.MonMin: all, api.MonMax: 0, api.MonMinInt: 1<<63 - 1, api.MonMaxInt: 1 << 63, api.MonAdd: 0, api.MonAnd: all, api.MonOr: 0, api.MonNibbles: 0} {
		for _, y := range words {
			if got := tally.Mon(m, api.State{3: neutral}, 3, y); got != (api.State{3: y}) {
				t.Errorf("monoid %d, %x into its neutral word: %x", m, y, got)
			}
			if got := tally.Mon(m, api.State{3: y}, 3, neutral); got != (api.State{3: y}) {
				t.Errorf("monoid %d, its neutral word into %x: %x", m, y, got)
			}
		}
	}
}

// P2.3: a sum in six words from at on; the high 32 bits of what comes are not looked at.
func TestMonTally(t *testing.T) {
	some := sums()
	roll := dice()
	for i, u := range append(finite(), unreals...) {
		for at := range 3 {
			sum := some[(i+at*11)%len(some)]
			s := api.State{11, 12, 13, 14, 15, 16, 17, 18}
			copy(s[at:], sum[:])
			want := s
			put := tally.Put(sum, u)
			copy(want[at:], put[:])
			if got := tally.Mon(api.MonTally, s, at, uint64(u)|roll.Uint64()<<32); got != want {
				t.Fatalf("%x at %d of %v: %v, not %v", u, at, s, got, want)
			}
		}
	}
	if got := tally.Mon(api.MonTally, api.State{}, 2, 0xffffffff3f800000); got != (api.State{4: 2097152}) {
		t.Errorf("1 at 2: %v", got)
	}
}

// P2.3: monoids and places that may not be.
func TestMonRefuses(t *testing.T) {
	s := api.State{1, 2, 3, 4, 5, 6, 7, 8}
	wrong := []int{-1, -2, 8, 9, 64, 1 << 32, math.MaxInt, math.MinInt, math.MinInt + 6, math.MaxInt - 5}
	for m := api.MonNone; m <= api.MonTally; m++ {
		for _, at := range wrong {
			if got := tally.Mon(m, s, at, 0x3f800000); got != s {
				t.Errorf("monoid %d at %d: %v", m, at, got)
			}
		}
	}
	for at := 3; at < 8; at++ {
		if got := tally.Mon(api.MonTally, s, at, 0x3f800000); got != s {
			t.Errorf("a tally at %d: %v", at, got)
		}
	}
	for _, m := range []api.Monoid{-1, 10, 11, 16, 1 << 32, math.MaxInt, math.MinInt} {
		for _, at := range append(wrong, 0, 3, 7) {
			if got := tally.Mon(m, s, at, all); got != s {
				t.Errorf("monoid %d at %d: %v", m, at, got)
			}
		}
	}
}
