package tally_test

import (
	"math"
	"math/big"
	"math/rand/v2"
	"slices"
	"testing"

	"sluice/api"
	"sluice/tally"
)

// dice gives the same numbers at every run.
func dice() *rand.Rand { return rand.New(rand.NewPCG(3, 4)) }

const all = math.MaxUint64

var (
	least    = tally.Sum{5: 1 << 63}
	greatest = tally.Sum{all, all, all, all, all, all >> 1}
	modulus  = power(384)
)

const (
	greatestFloat = 0x7f7fffff
	signBit       = 1 << 31
)

// unreals are the bits of infinities and NaNs.
var unreals = []uint32{0x7f800000, 0xff800000, 0x7fc00000, 0xffc00000, 0x7f800001, 0xff800001, 0x7fffffff, 0xffffffff}

func float(u uint32) float32 { return math.Float32frombits(u) }

func power(k uint) *big.Int { return new(big.Int).Lsh(big.NewInt(1), k) }

// integer tells a sum's integer by another way than the program's.
func integer(s tally.Sum) *big.Int {
	n := new(big.Int)
	for _, w := range slices.Backward(s[:]) {
		n.Lsh(n, 64).Or(n, new(big.Int).SetUint64(w))
	}
	if s[5]>>63 == 1 {
		n.Sub(n, modulus)
	}
	return n
}

// wrapped tells the sum of an integer, modulo 2^384.
func wrapped(n *big.Int) tally.Sum {
	var s tally.Sum
	rest := new(big.Int).Mod(n, modulus)
	word := new(big.Int).SetUint64(all)
	for i := range s {
		s[i] = new(big.Int).And(rest, word).Uint64()
		rest.Rsh(rest, 64)
	}
	return s
}

// units tells a finite float32's integer.
func units(u uint32) *big.Int {
	x := new(big.Float).SetFloat64(float64(float(u)))
	n, _ := x.SetMantExp(x, 149).Int(nil)
	return n
}

func of(t *testing.T, xs ...float32) tally.Sum {
	t.Helper()
	s, e := tally.Of(xs...)
	if e != api.OK {
		t.Fatalf("Of(%v): %v", xs, e)
	}
	return s
}

// sums are edges and all kinds of lengths.
func sums() []tally.Sum {
	list := []tally.Sum{{}, {1}, {2}, {3}, {all}, {0, 1}, {all, all, all, all, all, all}, {all, all, all, all, all}, {0, 0, 0, 0, 0, 1}, least, greatest, {1, 5: 1 << 63}, {5: 1 << 62}, {5: 3 << 62}, {5: 1 << 40}, {0, 0, 2097152}}
	roll := dice()
	for range 600 {
		var s tally.Sum
		for i := range 1 + roll.IntN(6) {
			s[i] = roll.Uint64() >> roll.IntN(64)
			if roll.IntN(4) == 0 {
				s[i] = all * uint64(roll.IntN(2))
			}
		}
		if roll.IntN(2) == 0 {
			s = wrapped(new(big.Int).Neg(integer(s)))
		}
		list = append(list, s)
	}
	for k := range uint(384) {
		list = append(list, wrapped(power(k)), wrapped(new(big.Int).Neg(power(k))))
	}
	return list
}

// finite are float32 of all exponents, the zeros among them.
func finite() []uint32 {
	list := []uint32{0, signBit, 1, 1 | signBit, 0x007fffff, 0x00800000, 0x00800001, 0x3f800000, 0xbf800000, greatestFloat, greatestFloat | signBit}
	roll := dice()
	for exponent := range uint32(255) {
		for range 4 {
			list = append(list, exponent<<23|roll.Uint32()&0x807fffff)
		}
	}
	return list
}

// P2.1, examples 1, 3 and 7.
func TestOf(t *testing.T) {
	for _, x := range []struct {
		xs   []float32
		want tally.Sum
	}{
		{nil, tally.Sum{}},
		{[]float32{}, tally.Sum{}},
		{[]float32{1}, tally.Sum{0, 0, 2097152}},
		{[]float32{-1}, tally.Sum{0, 0, 1<<64 - 2097152, all, all, all}},
		{[]float32{float(1)}, tally.Sum{1}},
		{[]float32{float(1 | signBit)}, tally.Sum{all, all, all, all, all, all}},
		{[]float32{float(signBit)}, tally.Sum{}},
		{[]float32{1e30, 1, -1e30}, tally.Sum{0, 0, 2097152}},
		{[]float32{float(greatestFloat)}, tally.Sum{3: 7 << 61, 4: 1<<21 - 1}},
	} {
		if s, e := tally.Of(x.xs...); s != x.want || e != api.OK {
			t.Errorf("Of(%v): %v %v, not %v", x.xs, s, e, x.want)
		}
	}
}

// P2.1, P2.2: one number more, whatever the sum.
func TestOneMore(t *testing.T) {
	some := sums()
	for i, u := range finite() {
		s := some[i*7%len(some)]
		want := wrapped(new(big.Int).Add(integer(s), units(u)))
		if got, e := s.Add(float(u)); got != want || e != api.OK {
			t.Fatalf("%v and %x: %v %v, not %v", s, u, got, e, want)
		}
		if got := tally.Put(s, u); got != want {
			t.Fatalf("Put(%v, %x): %v, not %v", s, u, got, want)
		}
	}
}

// P2.1: beyond the range it comes around.
func TestAddComesAround(t *testing.T) {
	if s, e := greatest.Add(float(1)); s != least || e != api.OK {
		t.Errorf("above the greatest: %v %v", s, e)
	}
	if s, e := least.Add(float(1 | signBit)); s != greatest || e != api.OK {
		t.Errorf("below the least: %v %v", s, e)
	}
	if s := tally.Put(tally.Sum{all, all, all, all, all, all}, 1); s != (tally.Sum{}) {
		t.Errorf("-1 and 1: %v", s)
	}
}

// P2.1, P2.2: NaNs and infinities, at every place of a list.
func TestUnreals(t *testing.T) {
	three := of(t, 3)
	for _, u := range unreals {
		for at := range 4 {
			xs := []float32{1, 2, -3}
			xs = slices.Insert(xs, at, float(u))
			if s, e := three.Add(xs...); s != (tally.Sum{}) || e != api.ErrNoReal {
				t.Errorf("%x: %v %v", u, s, e)
			}
			if s, e := tally.Of(xs...); s != (tally.Sum{}) || e != api.ErrNoReal {
				t.Errorf("Of, %x: %v %v", u, s, e)
			}
		}
		for _, s := range []tally.Sum{{}, three, least, greatest} {
			if got := tally.Put(s, u); got != s {
				t.Errorf("Put(%v, %x): %v", s, u, got)
			}
		}
	}
}

// P2.1: what is handed in is as it was, the sum too.
func TestAddLeavesItsArguments(t *testing.T) {
	whole := []float32{1, 2, 3, 4}
	s := of(t, 5)
	if _, e := s.Add(whole[:2]...); e != api.OK || !slices.Equal(whole, []float32{1, 2, 3, 4}) || s != of(t, 5) {
		t.Errorf("%v, %v, %v", e, whole, s)
	}
	s.Merge(s)
	s.Neg()
	s.Times(3)
	s.Shift(1)
	if s != of(t, 5) {
		t.Errorf("%v", s)
	}
}

// P2.4.
func TestMergeNegTimes(t *testing.T) {
	some := sums()
	roll := dice()
	for i, s := range some {
		u := some[roll.IntN(len(some))]
		if got, want := s.Merge(u), wrapped(new(big.Int).Add(integer(s), integer(u))); got != want {
			t.Fatalf("%v merged with %v: %v, not %v", s, u, got, want)
		}
		if got, want := s.Neg(), wrapped(new(big.Int).Neg(integer(s))); got != want {
			t.Fatalf("%v turned: %v, not %v", s, got, want)
		}
		if s.Merge(s.Neg()) != (tally.Sum{}) { // P2.13
			t.Fatalf("%v and its Neg: %v", s, s.Merge(s.Neg()))
		}
		for _, n := range []int64{0, 1, -1, 2, -2, 10, math.MaxInt64, math.MinInt64, math.MinInt64 + 1, int64(roll.Uint64()), int64(roll.Uint64()) >> (i % 64)} {
			if got, want := s.Times(n), wrapped(new(big.Int).Mul(integer(s), big.NewInt(n))); got != want {
				t.Fatalf("%v times %d: %v, not %v", s, n, got, want)
			}
		}
	}
	if least.Neg() != least {
		t.Errorf("the least sum's Neg: %v", least.Neg())
	}
}

// P2.5: by every k that may give a sum, and far beyond.
func TestShift(t *testing.T) {
	far := []int{384, -384, 385, -385, 400, -400, 448, -448, 1 << 20, -1 << 20, 1 << 32, -1 << 32, math.MaxInt, math.MinInt, math.MinInt + 1, math.MaxInt - 63}
	low, high := new(big.Int).Neg(power(383)), power(383)
	roll := dice()
	for i, s := range sums() {
		n := integer(s)
		ks := append([]int{0, i % 384, -(i % 384), roll.IntN(384), -roll.IntN(384), int(n.TrailingZeroBits()), -int(n.TrailingZeroBits()), -int(n.TrailingZeroBits()) - 1, 383 - n.BitLen(), 384 - n.BitLen(), 382 - n.BitLen()}, far...)
		for _, k := range ks {
			want, e := tally.Sum{}, api.OK
			if n.Sign() != 0 {
				e = api.ErrExact
				if k >= 0 && k < 1000 {
					if m := new(big.Int).Lsh(n, uint(k)); m.Cmp(low) >= 0 && m.Cmp(high) < 0 {
						want, e = wrapped(m), api.OK
					}
				} else if k < 0 && uint(-k) <= n.TrailingZeroBits() && k > -1000 {
					want, e = wrapped(new(big.Int).Rsh(n, uint(-k))), api.OK
				}
			}
			if got, err := s.Shift(k); got != want || err != e {
				t.Fatalf("%v by %d: %v %v, not %v %v", s, k, got, err, want, e)
			}
		}
	}
}

// P2.5, example 8, and the ends of the range.
func TestShiftExamples(t *testing.T) {
	for _, x := range []struct {
		s    tally.Sum
		k    int
		want tally.Sum
		e    api.Errno
	}{
		{of(t, 3), -150, tally.Sum{}, api.ErrExact}, {of(t, 3), -149, tally.Sum{3}, api.OK},
		{tally.Sum{1}, 382, tally.Sum{5: 1 << 62}, api.OK}, {tally.Sum{1}, 383, tally.Sum{}, api.ErrExact}, {tally.Sum{1}.Neg(), 383, least, api.OK}, {tally.Sum{1}.Neg(), 384, tally.Sum{}, api.ErrExact},
		{least, -383, tally.Sum{1}.Neg(), api.OK}, {least, -384, tally.Sum{}, api.ErrExact}, {least, 1, tally.Sum{}, api.ErrExact}, {least, 0, least, api.OK}, {greatest, 1, tally.Sum{}, api.ErrExact},
		{tally.Sum{}, math.MinInt, tally.Sum{}, api.OK}, {tally.Sum{}, math.MaxInt, tally.Sum{}, api.OK}, {tally.Sum{}, 384, tally.Sum{}, api.OK},
	} {
		if got, e := x.s.Shift(x.k); got != x.want || e != x.e {
			t.Errorf("%v by %d: %v %v, not %v %v", x.s, x.k, got, e, x.want, x.e)
		}
	}
}

// P2.6, example 7.
func TestSignAndCompare(t *testing.T) {
	some := sums()
	roll := dice()
	for _, s := range some {
		if got, want := s.Sign(), integer(s).Sign(); got != want {
			t.Fatalf("the sign of %v: %d", s, got)
		}
		near := []tally.Sum{s, s.Neg(), s.Merge(tally.Sum{1}), s.Merge(tally.Sum{1}.Neg()), s.Merge(tally.Sum{0, 0, 0, 1}), least, greatest, {}, some[roll.IntN(len(some))], some[roll.IntN(len(some))]}
		for _, u := range near {
			if got, want := s.Compare(u), integer(s).Cmp(integer(u)); got != want {
				t.Fatalf("%v against %v: %d, not %d", s, u, got, want)
			}
			if (s.Compare(u) == 0) != (s == u) {
				t.Fatalf("%v against %v", s, u)
			}
		}
	}
	if least.Sign() != -1 || greatest.Sign() != 1 || (tally.Sum{}).Sign() != 0 || least.Compare(greatest) != -1 {
		t.Errorf("the ends")
	}
}

// P2.12, P2.2: in every order and grouping the same words.
func TestOrderNeverShows(t *testing.T) {
	list := finite()
	var want tally.Sum
	for _, u := range list {
		want = tally.Put(want, u)
	}
	roll := dice()
	for range 20 {
		roll.Shuffle(len(list), func(i, j int) { list[i], list[j] = list[j], list[i] })
		var xs []float32
		for _, u := range list {
			xs = append(xs, float(u))
		}
		if of(t, xs...) != want {
			t.Fatalf("one list: %v, not %v", of(t, xs...), want)
		}
		var several [3]tally.Sum
		var singly, put tally.Sum
		for i, x := range xs {
			several[i%3] = tally.Put(several[i%3], list[i])
			put = tally.Put(tally.Put(put, list[i]), unreals[i%len(unreals)])
			singly, _ = singly.Add(x)
		}
		cut := roll.IntN(len(xs))
		if got := of(t, xs[:cut]...).Merge(of(t, xs[cut:]...)); got != want {
			t.Fatalf("two lists: %v, not %v", got, want)
		}
		if got := several[2].Merge(several[0]).Merge(several[1]); got != want || put != want || singly != want {
			t.Fatalf("%v, %v, %v, not %v", got, put, singly, want)
		}
	}
}
