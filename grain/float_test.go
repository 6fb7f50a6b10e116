package grain_test

import (
	"math"
	"math/big"
	"testing"

	"sluice/api"
	"sluice/grain"
)

// corners are the floats at which something changes: the classes' ends and what lies beside them, with both signs.
func corners() []uint32 {
	var all []uint32
	for _, u := range []uint32{0, 1, 2, 3, 0x003fffff, 0x00400000, 0x007ffffe, 0x007fffff, 0x00800000, 0x00800001, 0x00ffffff, 0x01000000, 0x33800000, 0x3dcccccd, 0x3f7fffff, 0x3f800000, 0x3f800001, 0x3fc00000, 0x4b7fffff, 0x4b800000, 0x4b800001, 0x7f000000, 0x7f7ffffe, 0x7f7fffff, 0x7f800000, 0x7f800001, 0x7fbfffff, 0x7fc00000, 0x7fc00001, 0x7fffffff} {
		all = append(all, u, u|1<<31)
	}
	return all
}

// floats are the corners and many others.
func floats() []uint32 {
	all, d := corners(), dice()
	for range 20000 {
		all = append(all, d.Uint32(), d.Uint32()>>8, d.Uint32()&0x807fffff)
	}
	return all
}

func isNaN(u uint32) bool { return u&0x7fffffff > 0x7f800000 }

// P1.4.
func TestBitsAndFloat(t *testing.T) {
	for _, u := range floats() {
		back := grain.Bits(grain.Float(u))
		if isNaN(u) && !isNaN(back) || !isNaN(u) && back != u {
			t.Fatalf("Bits(Float(%x)): %x", u, back)
		}
	}
	for u, x := range map[uint32]float32{0: 0, 1: math.SmallestNonzeroFloat32, 0x3fc00000: 1.5, 0xc0000000: -2, 0x7f7fffff: math.MaxFloat32} {
		if grain.Float(u) != x || grain.Bits(x) != u {
			t.Errorf("%x: %v, %x", u, grain.Float(u), grain.Bits(x))
		}
	}
	if x := float64(grain.Float(0xff800000)); !math.IsInf(x, -1) {
		t.Errorf("minus infinity: %v", x)
	}
	if x := float64(grain.Float(0x7f800001)); !math.IsNaN(x) {
		t.Errorf("a NaN: %v", x)
	}
	if u := grain.Bits(float32(math.Copysign(0, -1))); u != 1<<31 {
		t.Errorf("minus zero: %x", u)
	}
}

// P1.5, example 2.
func TestClass(t *testing.T) {
	for u, want := range map[uint32]int{0: api.FloatZero, 1: api.FloatSub, 0x007fffff: api.FloatSub, 0x00800000: api.FloatNormal, 0x3f800000: api.FloatNormal, 0x7f7fffff: api.FloatNormal, 0x7f800000: api.FloatInf, 0x7f800001: api.FloatNaN, 0x7fc00000: api.FloatNaN, 0x7fffffff: api.FloatNaN} {
		for _, sign := range []uint32{0, 1 << 31} {
			if got := grain.Class(u | sign); got != want {
				t.Errorf("Class(%x): %d", u|sign, got)
			}
		}
	}
}

// P1.6, example 2.
func TestRank(t *testing.T) {
	for u, want := range map[uint32]int64{0: 0, 1: 1, 0x7f800000: 0x7f800000, 0x7fffffff: 1<<31 - 1, 0x80000000: -1, 0x80000001: -2, 0xff800000: -1 - 0x7f800000, 0xffffffff: -1 << 31} {
		if r := grain.Rank(u); r != want {
			t.Errorf("Rank(%x): %d", u, r)
		}
	}
	for _, u := range floats() {
		if back, e := grain.OfRank(grain.Rank(u)); back != u || e != api.OK {
			t.Fatalf("OfRank(Rank(%x)): %x %v", u, back, e)
		}
		v := u ^ 0x155555
		if !isNaN(u) && !isNaN(v) && grain.Float(u) < grain.Float(v) && grain.Rank(u) >= grain.Rank(v) {
			t.Fatalf("%x is less than %x; ranks %d, %d", u, v, grain.Rank(u), grain.Rank(v))
		}
		if isNaN(u) && grain.Rank(u) <= grain.Rank(0x7f800000) && grain.Rank(u) >= grain.Rank(0xff800000) {
			t.Fatalf("a NaN within the infinities: %x, rank %d", u, grain.Rank(u))
		}
	}
}

// P1.6: what is no rank.
func TestOfRank(t *testing.T) {
	for r, want := range map[int64]uint32{0: 0, -1: 1 << 31, -2: 1<<31 + 1, 1<<31 - 1: 1<<31 - 1, -1 << 31: 1<<32 - 1} {
		if u, e := grain.OfRank(r); u != want || e != api.OK {
			t.Errorf("OfRank(%d): %x %v", r, u, e)
		}
	}
	for _, r := range []int64{1 << 31, -1<<31 - 1, 1 << 32, -1 << 32, 1<<32 + 5, math.MaxInt64, math.MinInt64} {
		if u, e := grain.OfRank(r); u != 0 || e != api.ErrFit {
			t.Errorf("OfRank(%d): %x %v", r, u, e)
		}
	}
}

// P1.7.
func TestParts(t *testing.T) {
	for _, u := range floats() {
		neg, m, e, err := grain.Parts(u)
		switch grain.Class(u) {
		case api.FloatInf, api.FloatNaN:
			if neg || m != 0 || e != 0 || err != api.ErrNoReal {
				t.Fatalf("Parts(%x): %v %d %d %v", u, neg, m, e, err)
			}
			continue
		case api.FloatZero:
			if m != 0 || e != 0 {
				t.Fatalf("Parts(%x): %d %d", u, m, e)
			}
		default:
			if m%2 == 0 || math.Ldexp(float64(m), e) != math.Abs(float64(grain.Float(u))) {
				t.Fatalf("Parts(%x): %d %d", u, m, e)
			}
		}
		if neg != (u>>31 == 1) || err != api.OK {
			t.Fatalf("Parts(%x): %v %v", u, neg, err)
		}
	}
	if neg, m, e, err := grain.Parts(0x3fc00000); neg || m != 3 || e != -1 || err != api.OK {
		t.Errorf("Parts of 1.5: %v %d %d %v", neg, m, e, err)
	}
}

// P1.8, example 3, and the edges: ties, the least ones, the greatest one, any exponent.
func TestRound(t *testing.T) {
	for _, x := range []struct {
		m    uint64
		e    int
		want uint32
	}{
		{16777219, 0, 0x4b800002}, {16777217, 0, 0x4b800000}, {1, -150, 0}, {3, -151, 1}, {3, -150, 2}, {1, -149, 1}, {1<<63 + 1, -213, 1}, {1 << 63, -213, 0}, {math.MaxUint64, -213, 1}, {math.MaxUint64, -214, 0},
		{1<<24 - 1, -150, 0x00800000}, {1<<24 - 3, -150, 0x007ffffe}, {1<<23 - 1, -149, 0x007fffff},
		{1, 127, 0x7f000000}, {1, 128, 0x7f800000}, {1<<24 - 1, 104, 0x7f7fffff}, {1<<25 - 1, 103, 0x7f800000}, {1<<26 - 3, 102, 0x7f7fffff}, {math.MaxUint64, 64, 0x7f800000},
		{0, 0, 0}, {0, math.MaxInt, 0}, {0, math.MinInt, 0}, {1, math.MaxInt, 0x7f800000}, {1, math.MinInt, 0}, {math.MaxUint64, math.MaxInt, 0x7f800000}, {math.MaxUint64, math.MinInt, 0}, {1, math.MaxInt - 30, 0x7f800000}, {math.MaxUint64, math.MinInt + 30, 0},
	} {
		if u := grain.Round(false, x.m, x.e); u != x.want {
			t.Errorf("Round(false, %d, %d): %x, not %x", x.m, x.e, u, x.want)
		}
		if u := grain.Round(true, x.m, x.e); u != x.want|1<<31 {
			t.Errorf("Round(true, %d, %d): %x, not %x", x.m, x.e, u, x.want|1<<31)
		}
	}
}

// nearestTo tells what math/big makes of m * 2^e.
func nearestTo(m uint64, e int) uint32 {
	x := new(big.Rat).SetInt(new(big.Int).SetUint64(m))
	power := new(big.Int).Lsh(big.NewInt(1), uint(max(e, -e)))
	if e < 0 {
		x.Quo(x, new(big.Rat).SetInt(power))
	} else {
		x.Mul(x, new(big.Rat).SetInt(power))
	}
	f, _ := x.Float32()
	return math.Float32bits(f)
}

// P1.8 against another's reckoning, numbers with many bits and with few, ties among them.
func TestRoundIsTheNearest(t *testing.T) {
	d := dice()
	for range 30000 {
		e := d.IntN(560) - 330
		for _, m := range []uint64{d.Uint64(), d.Uint64() >> d.IntN(64), 1 << d.IntN(64), (d.Uint64()>>39 | 1) << d.IntN(39)} {
			if u, want := grain.Round(false, m, e), nearestTo(m, e); u != want {
				t.Fatalf("Round(false, %d, %d): %x, not %x", m, e, u, want)
			}
		}
	}
}
