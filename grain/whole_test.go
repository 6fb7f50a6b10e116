package grain_test

import (
	"math"
	"math/big"
	"testing"

	"sluice/api"
	"sluice/grain"
)

// wholes are numbers at the edges of int64, of its half and of its root, and others.
func wholes() []int64 {
	all := []int64{0, 1, -1, 2, -2, 3, -3, 7, -7, 10, math.MaxInt64, math.MaxInt64 - 1, math.MinInt64, math.MinInt64 + 1, 1 << 62, -1 << 62, 1<<62 - 1, 1<<62 + 1, -1<<62 - 1, 1 << 32, -1 << 32, 1 << 31, -1 << 31, 3037000499, 3037000500, -3037000499, -3037000500, 4294967295}
	d := dice()
	for range 40 {
		all = append(all, int64(d.Uint64()), int64(d.Uint64())>>d.IntN(64))
	}
	return all
}

// agree holds an answer against the exact number.
func agree(t *testing.T, call string, a, b, got int64, e api.Errno, want *big.Int) {
	t.Helper()
	switch {
	case !want.IsInt64() && (got != 0 || e != api.ErrBeyond):
		t.Errorf("%s(%d, %d): %d %v, not ErrBeyond", call, a, b, got, e)
	case want.IsInt64() && (got != want.Int64() || e != api.OK):
		t.Errorf("%s(%d, %d): %d %v, not %v", call, a, b, got, e, want)
	}
}

// P1.13, example 7.
func TestCheckedNumbers(t *testing.T) {
	for _, a := range wholes() {
		x := big.NewInt(a)
		got, e := grain.Neg(a)
		agree(t, "Neg", a, 0, got, e, new(big.Int).Neg(x))
		for _, b := range wholes() {
			y := big.NewInt(b)
			got, e = grain.Add(a, b)
			agree(t, "Add", a, b, got, e, new(big.Int).Add(x, y))
			got, e = grain.Sub(a, b)
			agree(t, "Sub", a, b, got, e, new(big.Int).Sub(x, y))
			got, e = grain.Mul(a, b)
			agree(t, "Mul", a, b, got, e, new(big.Int).Mul(x, y))
			if b == 0 {
				continue
			}
			got, e = grain.Quo(a, b)
			agree(t, "Quo", a, b, got, e, new(big.Int).Quo(x, y))
			got, e = grain.Rem(a, b)
			agree(t, "Rem", a, b, got, e, new(big.Int).Rem(x, y))
		}
	}
	if q, e := grain.Quo(-7, 2); q != -3 || e != api.OK {
		t.Errorf("Quo(-7, 2): %d %v", q, e)
	}
	if r, e := grain.Rem(-7, 2); r != -1 || e != api.OK {
		t.Errorf("Rem(-7, 2): %d %v", r, e)
	}
}

// P1.13: by 0, and the one quotient that is no int64, whose rest is one.
func TestDivisionsAtTheirEdges(t *testing.T) {
	for _, a := range wholes() {
		if q, e := grain.Quo(a, 0); q != 0 || e != api.ErrByZero {
			t.Errorf("Quo(%d, 0): %d %v", a, q, e)
		}
		if r, e := grain.Rem(a, 0); r != 0 || e != api.ErrByZero {
			t.Errorf("Rem(%d, 0): %d %v", a, r, e)
		}
	}
	if q, e := grain.Quo(math.MinInt64, -1); q != 0 || e != api.ErrBeyond {
		t.Errorf("Quo of the least by -1: %d %v", q, e)
	}
	if r, e := grain.Rem(math.MinInt64, -1); r != 0 || e != api.OK {
		t.Errorf("Rem of the least by -1: %d %v", r, e)
	}
}

// P1.14, example 7.
func TestTotal(t *testing.T) {
	const most, least = math.MaxInt64, math.MinInt64
	for _, x := range []struct {
		xs   []int64
		want int64
		e    api.Errno
	}{
		{nil, 0, api.OK}, {[]int64{}, 0, api.OK}, {[]int64{5}, 5, api.OK}, {[]int64{1, -2, 3}, 2, api.OK}, {[]int64{most, 1, -1}, most, api.OK}, {[]int64{least, -1, 1}, least, api.OK},
		{[]int64{most, most, most, least, least, least, 3}, 0, api.OK}, {[]int64{least, least, most, most, 2}, 0, api.OK}, {[]int64{most}, most, api.OK}, {[]int64{least}, least, api.OK}, {[]int64{most, least}, -1, api.OK},
		{[]int64{most, 1}, 0, api.ErrBeyond}, {[]int64{least, -1}, 0, api.ErrBeyond}, {[]int64{least, least}, 0, api.ErrBeyond}, {[]int64{most, most, 2}, 0, api.ErrBeyond}, {[]int64{least, least, least, least}, 0, api.ErrBeyond},
	} {
		before := append([]int64(nil), x.xs...)
		if got, e := grain.Total(x.xs...); got != x.want || e != x.e {
			t.Errorf("Total(%d): %d %v", x.xs, got, e)
		}
		for i := range before {
			if x.xs[i] != before[i] {
				t.Errorf("Total changed what it was given: %d", x.xs)
			}
		}
	}
	if got, e := grain.Total(); got != 0 || e != api.OK {
		t.Errorf("Total(): %d %v", got, e)
	}
}

// P1.14 against math/big, the sums on the way far beyond.
func TestTotalIsExact(t *testing.T) {
	d := dice()
	for range 2000 {
		sum := new(big.Int)
		var xs []int64
		for range d.IntN(20) {
			x := int64(d.Uint64())
			xs = append(xs, x)
			sum.Add(sum, big.NewInt(x))
		}
		got, e := grain.Total(xs...)
		agree(t, "Total", int64(len(xs)), 0, got, e, sum)
	}
	xs := make([]int64, 3000)
	for i := range xs {
		xs[i] = math.MaxInt64
		if i >= 1500 {
			xs[i] = -math.MaxInt64
		}
	}
	if got, e := grain.Total(append(xs, 42)...); got != 42 || e != api.OK {
		t.Errorf("Total of many: %d %v", got, e)
	}
}
