package loom_test

import (
	"math"
	"testing"

	"sluice/api"
)

// pushed is a constant of a value.
func pushed(v value) api.Ins {
	return op(map[byte]int{'i': api.OpInt, 'r': api.OpReal, 'b': api.OpBool}[v.kind], int64(v.word()))
}

var kindOfLetter = map[byte]api.WordKind{'i': int_, 'r': real, 'b': bool_}

// reckoned holds an instruction on values against the model's.
func reckoned(t *testing.T, all []row, x api.Ins, off ...value) {
	t.Helper()
	var list []api.Ins
	for _, v := range off {
		list = append(list, pushed(v))
	}
	want, e := reckon(x, off)
	steps := len(off) + 3
	word := uint64(0)
	if e != api.OK {
		steps = len(off) + 1
	} else {
		word = want.word()
	}
	kind := kindOfLetter[all[x.Op].pushes[0][0]]
	if got, n, gotE := sent(t, kind, api.Frame{}, append(list, x)...); got != word || n != steps || gotE != e {
		t.Errorf("%s %d of %v: %x, %d steps, %d, not %x, %d, %d", all[x.Op].name, x.Arg, list, got, n, gotE, word, steps, e)
	}
}

// The table: whole numbers, each against each.
func TestWholeNumbers(t *testing.T) {
	all := rows()
	for _, a := range wholes {
		for _, o := range []int{api.OpNegI, api.OpAbsI, api.OpToReal} {
			reckoned(t, all, op(o), whole(a))
		}
		for _, n := range []int64{0, 1, 31, 32, 33, 62, 63} {
			reckoned(t, all, op(api.OpShl, n), whole(a))
			reckoned(t, all, op(api.OpShr, n), whole(a))
		}
		for _, b := range wholes {
			for _, o := range []int{api.OpAddI, api.OpSubI, api.OpMulI, api.OpQuoI, api.OpRemI, api.OpMinI, api.OpMaxI, api.OpAndI, api.OpOrI, api.OpXorI, api.OpEqI, api.OpLtI, api.OpLeI} {
				reckoned(t, all, op(o), whole(a), whole(b))
			}
		}
	}
}

// The table: reals, each against each, and any others.
func TestRealNumbers(t *testing.T) {
	all, roll := rows(), dice(3)
	list := append([]uint32(nil), realBits...)
	for range 30 {
		u := roll.Uint32()
		if roll.IntN(2) == 0 {
			u = 0x3f800000 + u%0x1000000
		}
		if u&0x7fffffff <= 0x7f800000 {
			list = append(list, u)
		}
	}
	for _, a := range list {
		x := value{kind: 'r', bits: a}
		for _, o := range []int{api.OpNegF, api.OpAbsF, api.OpSqrtF, api.OpToInt} {
			reckoned(t, all, op(o), x)
		}
		for _, b := range list {
			for _, o := range []int{api.OpAddF, api.OpSubF, api.OpMulF, api.OpQuoF, api.OpMinF, api.OpMaxF, api.OpEqF, api.OpLtF, api.OpLeF} {
				reckoned(t, all, op(o), x, value{kind: 'r', bits: b})
			}
		}
	}
}

// The table: bools.
func TestBools(t *testing.T) {
	all := rows()
	for _, a := range []bool{false, true} {
		x := value{kind: 'b', yes: a}
		reckoned(t, all, op(api.OpNot), x)
		for _, b := range []bool{false, true} {
			for _, o := range []int{api.OpEqB, api.OpAnd, api.OpOr} {
				reckoned(t, all, op(o), x, value{kind: 'b', yes: b})
			}
		}
	}
}

// The table: bounds by hand, so that the model is held against something too.
func TestNumbersByHand(t *testing.T) {
	const least, most = math.MinInt64, math.MaxInt64
	const inf, minusInf, minusZero, one = 0x7f800000, 0xff800000, 0x80000000, 0x3f800000
	for _, c := range []struct {
		a, b int64
		x    api.Ins
		want int64
		e    api.Errno
	}{
		{most, 1, op(api.OpAddI), 0, api.ErrTrapInt},
		{least, -1, op(api.OpAddI), 0, api.ErrTrapInt},
		{least, 1, op(api.OpSubI), 0, api.ErrTrapInt},
		{0, least, op(api.OpSubI), 0, api.ErrTrapInt},
		{-1, least, op(api.OpSubI), most, api.OK},
		{least, -1, op(api.OpMulI), 0, api.ErrTrapInt},
		{least, 1, op(api.OpMulI), least, api.OK},
		{1 << 32, 1 << 31, op(api.OpMulI), 0, api.ErrTrapInt},
		{least, -1, op(api.OpQuoI), 0, api.ErrTrapInt},
		{least, 0, op(api.OpQuoI), 0, api.ErrTrapZero},
		{-7, 2, op(api.OpQuoI), -3, api.OK},
		{7, -2, op(api.OpQuoI), -3, api.OK},
		{-7, 2, op(api.OpRemI), -1, api.OK},
		{7, -2, op(api.OpRemI), 1, api.OK},
		{least, -1, op(api.OpRemI), 0, api.OK},
		{0, 0, op(api.OpRemI), 0, api.ErrTrapZero},
		{least, most, op(api.OpMinI), least, api.OK},
		{least, most, op(api.OpMaxI), most, api.OK},
		{-1, 0xff, op(api.OpAndI), 0xff, api.OK},
		{least, 1, op(api.OpOrI), least + 1, api.OK},
		{-1, 1, op(api.OpXorI), -2, api.OK},
	} {
		if got, _, e := sent(t, int_, api.Frame{}, op(api.OpInt, c.a), op(api.OpInt, c.b), c.x); int64(got) != c.want || e != c.e {
			t.Errorf("%v of %d, %d: %d, %d", c.x, c.a, c.b, int64(got), e)
		}
	}
	for _, c := range []struct {
		first api.Ins
		x     api.Ins
		kind  api.WordKind
		want  uint64
		e     api.Errno
	}{
		{op(api.OpInt, least), op(api.OpNegI), int_, 0, api.ErrTrapInt},
		{op(api.OpInt, least), op(api.OpAbsI), int_, 0, api.ErrTrapInt},
		{op(api.OpInt, -5), op(api.OpAbsI), int_, 5, api.OK},
		{op(api.OpInt, 3), op(api.OpShl, 63), int_, 1 << 63, api.OK},
		{op(api.OpInt, -1), op(api.OpShr, 63), int_, 1, api.OK},
		{op(api.OpInt, 1<<24+1), op(api.OpToReal), real, 0x4b800000, api.OK},
		{op(api.OpInt, 1<<24+3), op(api.OpToReal), real, 0x4b800002, api.OK},
		{op(api.OpInt, most), op(api.OpToReal), real, 0x5f000000, api.OK},
		{op(api.OpInt, least), op(api.OpToReal), real, 0xdf000000, api.OK},
		// Rounded once: by way of a float64 it would be a tie.
		{op(api.OpInt, 1<<60+1<<36+1), op(api.OpToReal), real, 0x5d800001, api.OK},
		{op(api.OpInt, 1<<60+1<<36), op(api.OpToReal), real, 0x5d800000, api.OK},
		{op(api.OpReal, 0x5f000000), op(api.OpToInt), int_, 0, api.ErrTrapInt},
		{op(api.OpReal, 0x5effffff), op(api.OpToInt), int_, 1<<63 - 1<<39, api.OK},
		{op(api.OpReal, 0xdf000000), op(api.OpToInt), int_, 1 << 63, api.OK},
		{op(api.OpReal, 0xdf000001), op(api.OpToInt), int_, 0, api.ErrTrapInt},
		{op(api.OpReal, inf), op(api.OpToInt), int_, 0, api.ErrTrapInt},
		{op(api.OpReal, minusInf), op(api.OpToInt), int_, 0, api.ErrTrapInt},
		{op(api.OpReal, 0x3f7fffff), op(api.OpToInt), int_, 0, api.OK},
		{op(api.OpReal, 0xbf7fffff), op(api.OpToInt), int_, 0, api.OK},
		{op(api.OpReal, 0xc0200000), op(api.OpToInt), int_, 1<<64 - 2, api.OK},
		{op(api.OpReal, minusZero), op(api.OpToInt), int_, 0, api.OK},
		{op(api.OpReal, 0), op(api.OpNegF), real, minusZero, api.OK},
		{op(api.OpReal, minusZero), op(api.OpAbsF), real, 0, api.OK},
		{op(api.OpReal, minusInf), op(api.OpAbsF), real, inf, api.OK},
		{op(api.OpReal, minusZero), op(api.OpSqrtF), real, minusZero, api.OK},
		{op(api.OpReal, 0x80000001), op(api.OpSqrtF), real, 0, api.ErrTrapReal},
		{op(api.OpReal, minusInf), op(api.OpSqrtF), real, 0, api.ErrTrapReal},
		{op(api.OpReal, 1), op(api.OpSqrtF), real, 0x1a3504f3, api.OK},
		{op(api.OpReal, 0x40800000), op(api.OpSqrtF), real, 0x40000000, api.OK},
	} {
		if got, _, e := sent(t, c.kind, api.Frame{}, c.first, c.x); got != c.want || e != c.e {
			t.Errorf("%v, %v: %x, %d", c.first, c.x, got, e)
		}
	}
	for _, c := range []struct {
		a, b int64
		o    int
		want uint64
		e    api.Errno
	}{
		{inf, minusInf, api.OpAddF, 0, api.ErrTrapReal},
		{inf, inf, api.OpAddF, inf, api.OK},
		{inf, inf, api.OpSubF, 0, api.ErrTrapReal},
		{0x7f7fffff, 0x7f7fffff, api.OpAddF, inf, api.OK},
		{one, 0x33800000, api.OpAddF, one, api.OK},               // half of the last place: to even
		{0x3f800001, 0x33800000, api.OpAddF, 0x3f800002, api.OK}, // to even
		{minusZero, minusZero, api.OpAddF, minusZero, api.OK},
		{0, minusZero, api.OpAddF, 0, api.OK},
		{one, one, api.OpSubF, 0, api.OK},
		{0x00800000, 1, api.OpSubF, 0x007fffff, api.OK}, // denormal
		{0, inf, api.OpMulF, 0, api.ErrTrapReal},
		{1, 0x3f000000, api.OpMulF, 0, api.OK}, // a tie, to 0
		{3, 0x3f000000, api.OpMulF, 2, api.OK},
		{1, 0xbf000000, api.OpMulF, minusZero, api.OK},
		{0, 0, api.OpQuoF, 0, api.ErrTrapReal},
		{inf, inf, api.OpQuoF, 0, api.ErrTrapReal},
		{one, 0, api.OpQuoF, inf, api.OK},
		{one, minusZero, api.OpQuoF, minusInf, api.OK},
		{one, 0x40400000, api.OpQuoF, 0x3eaaaaab, api.OK},
		{0, minusZero, api.OpMinF, minusZero, api.OK},
		{minusZero, 0, api.OpMinF, minusZero, api.OK},
		{0, minusZero, api.OpMaxF, 0, api.OK},
		{minusZero, 0, api.OpMaxF, 0, api.OK},
		{minusInf, inf, api.OpMaxF, inf, api.OK},
		{0xbf800000, 0xc0000000, api.OpMinF, 0xc0000000, api.OK},
	} {
		if got, _, e := sent(t, real, api.Frame{}, op(api.OpReal, c.a), op(api.OpReal, c.b), op(c.o)); got != c.want || e != c.e {
			t.Errorf("op %d of %x, %x: %x, %d", c.o, c.a, c.b, got, e)
		}
	}
}

// Traps: a product and a sum are rounded each by itself, though a machine could do both at once.
func TestNotFused(t *testing.T) {
	// (1 + 2^-12)^2 is rounded to 1 + 2^-11, so nothing is left; done at once it would leave 2^-24.
	x := op(api.OpReal, 0x3f800800)
	if got, _, e := sent(t, real, api.Frame{}, x, x, op(api.OpMulF), op(api.OpReal, 0x3f801000), op(api.OpSubF)); got != 0 || e != api.OK {
		t.Errorf("%x, %d", got, e)
	}
}
