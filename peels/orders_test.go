package peels_test

import (
	"math"
	"math/big"
	"math/rand/v2"
	"testing"

	"sluice/api"
	"sluice/peels"
)

// Bounds of the numbers of vertices: the greatest is a prime, the one below it has many divisors.
const (
	most   = api.MaxVertices
	second = api.MaxVertices - 1 // 2 * 3 * 3 * 7 * 11 * 31 * 151 * 331
	many   = 223092870           // the product of the first nine primes
)

// alone tells whether two numbers have no common divisor above 1, by another's reckoning.
func alone(x, y uint32) bool {
	return new(big.Int).GCD(nil, nil, big.NewInt(int64(x)), big.NewInt(int64(y))).Cmp(big.NewInt(1)) == 0
}

// refused holds Check, Place, Set and Colour against what is no order.
func refused(t *testing.T, r api.Rank) {
	t.Helper()
	if e := peels.Check(r); e != api.ErrOrderOf {
		t.Errorf("P14.1: Check(%v): %d", r, e)
	}
	for _, v := range []uint32{0, r.N - 1, r.N, math.MaxUint32} { // ErrOrderOf goes ahead of ErrArg
		if place, e := peels.Place(r, v); place != 0 || e != api.ErrOrderOf {
			t.Errorf("P14.1: Place(%v, %d): %d, %d", r, v, place, e)
		}
	}
	if p, e := peels.Set(r); p != nil || e != api.ErrOrderOf {
		t.Errorf("P14.3: Set(%v): %v, %d", r, p, e)
	}
	if p, e := peels.Colour(r); p != nil || e != api.ErrOrderOf {
		t.Errorf("P14.3: Colour(%v): %v, %d", r, p, e)
	}
}

// taken holds them against what is one, at one vertex and at those that are none.
func taken(t *testing.T, r api.Rank, v, want uint32) {
	t.Helper()
	if e := peels.Check(r); e != api.OK {
		t.Errorf("P14.1: Check(%v): %d", r, e)
	}
	if place, e := peels.Place(r, v); place != want || e != api.OK {
		t.Errorf("P14.1: Place(%v, %d): %d, %d, want %d", r, v, place, e, want)
	}
	for _, beyond := range []uint32{r.N, r.N + 1, math.MaxUint32} {
		if place, e := peels.Place(r, beyond); place != 0 || e != api.ErrArg {
			t.Errorf("P14.1: Place(%v, %d): %d, %d", r, beyond, place, e)
		}
	}
	if p, e := peels.Set(r); p == nil || e != api.OK {
		t.Errorf("P14.3: Set(%v): %d", r, e)
	}
	if p, e := peels.Colour(r); p == nil || e != api.OK {
		t.Errorf("P14.3: Colour(%v): %d", r, e)
	}
}

// P14.1: each limit at its bound and one beyond.
func TestWhatIsAnOrder(t *testing.T) {
	for _, r := range []api.Rank{
		{}, {A: 1}, {C: 1}, // N 0
		{N: 1, A: 1}, {N: 1, C: 1}, {N: 1, A: 1, C: 1}, {N: 1, A: math.MaxUint32},
		{N: 2}, {N: 2, C: 1}, {N: 2, A: 2}, {N: 2, A: 1, C: 2}, {N: 2, A: 3},
		{N: 6, A: 4}, {N: 6, A: 2}, {N: 6, A: 3}, {N: 6}, {N: 6, A: 6}, {N: 6, A: 7}, {N: 6, A: 5, C: 6}, // example 5
		{N: most}, {N: most, A: most}, {N: most, A: 1, C: most}, {N: most, A: math.MaxUint32}, {N: most, A: 1, C: math.MaxUint32},
		{N: most + 1, A: 1}, {N: most + 1, A: most, C: most}, {N: math.MaxUint32, A: 2}, {N: math.MaxUint32, A: math.MaxUint32 - 1, C: math.MaxUint32 - 1},
		{N: second, A: 331}, {N: second, A: second / 331}, {N: second, A: 331 * 5}, {N: second, A: second - 331}, {N: many, A: 23}, {N: many, A: many - 2},
	} {
		refused(t, r)
	}
	for _, row := range []struct {
		r       api.Rank
		v, want uint32
	}{
		{api.Rank{N: 1}, 0, 0},
		{api.Rank{N: 2, A: 1}, 1, 1},
		{api.Rank{N: 2, A: 1, C: 1}, 1, 0},
		{api.Rank{N: 4, A: 1, C: 2}, 1, 3}, // example 2
		{api.Rank{N: 6, A: 5, C: 5}, 5, 0},
		{api.Rank{N: most, A: 1}, most - 1, most - 1},
		{api.Rank{N: most, A: most - 1, C: most - 1}, most - 1, 0},
		{api.Rank{N: most, A: most - 1, C: most - 1}, 0, most - 1},
		{api.Rank{N: most, A: most - 2, C: most - 1}, most - 1, 1},
		{api.Rank{N: second, A: 337, C: second - 1}, second - 1, second - 338},
		{api.Rank{N: many, A: 29, C: 7}, many - 1, many - 22},
	} {
		taken(t, row.r, row.v, row.want)
	}
}

// P14.1: of all small numbers: it is an order just if N, A and C may be and the priorities are 0 to N - 1, each once.
func TestOrdersAreOrders(t *testing.T) {
	for n := range uint32(26) {
		for a := range n + 2 {
			for c := range n + 2 {
				r := api.Rank{N: n, A: a, C: c}
				there := make([]int, n)
				for v := range n {
					there[(a*v+c)%n]++
				}
				is := n > 0 && a < n && c < n
				for _, x := range there {
					is = is && x == 1
				}
				if !is {
					refused(t, r)
					continue
				}
				for v := range n {
					taken(t, r, v, (a*v+c)%n)
				}
			}
		}
	}
}

// P14.1: great numbers at random, against reckoning without bounds.
func TestGreatOrders(t *testing.T) {
	rnd := rand.New(rand.NewPCG(1, 141))
	is := 0
	for range 5000 {
		r := api.Rank{N: most - rnd.Uint32N(1<<uint(1+rnd.IntN(30)))}
		r.A, r.C = rnd.Uint32N(r.N), rnd.Uint32N(r.N)
		if !alone(r.A, r.N) {
			refused(t, r)
			continue
		}
		is++
		v := rnd.Uint32N(r.N)
		x := new(big.Int).Mul(big.NewInt(int64(r.A)), big.NewInt(int64(v)))
		x.Mod(x.Add(x, big.NewInt(int64(r.C))), big.NewInt(int64(r.N)))
		taken(t, r, v, uint32(x.Uint64()))
	}
	if is < 1000 || is > 4000 {
		t.Errorf("too little was tried: %d", is)
	}
}

// P14.2: example 5, seeds at the ends of 64 bits, numbers of vertices at their bounds, a first a that has a common divisor with n.
func TestRankOf(t *testing.T) {
	for _, row := range []struct {
		n    uint32
		seed uint64
		want api.Rank
	}{
		{6, 4<<32 + 9, api.Rank{N: 6, A: 5, C: 1}},
		{1, 77, api.Rank{N: 1}},
		{1, 0, api.Rank{N: 1}},
		{1, none, api.Rank{N: 1}},
		{2, 0, api.Rank{N: 2, A: 1}},
		{2, none, api.Rank{N: 2, A: 1, C: 1}},
		{6, 0, api.Rank{N: 6, A: 1}},
		{6, 1 << 32, api.Rank{N: 6, A: 1, C: 4}},
		{6, 2 << 32, api.Rank{N: 6, A: 5, C: 2}},
		{6, 6 << 32, api.Rank{N: 6, A: 1}},
		{6, 5<<32 + 1, api.Rank{N: 6, A: 5, C: 3}},
		{6, 8<<32 - 1, api.Rank{N: 6, A: 1, C: 1}}, // rounded down, not up
		{10, none, api.Rank{N: 10, A: 7, C: 5}},    // a is 5, then 6
		{10, 1 << 63, api.Rank{N: 10, A: 9, C: 8}}, // a is 8
		{10, 1<<32 - 1, api.Rank{N: 10, A: 1, C: 5}},
		{most, 0, api.Rank{N: most, A: 1}},
		{most, none, api.Rank{N: most, A: 1, C: 3}},
		{most, (most-1)<<32 + 2, api.Rank{N: most, A: most - 1}},
		{most, most << 32, api.Rank{N: most, A: 1}},
		{second, (second - 2) << 32, api.Rank{N: second, A: second - 1, C: second - 8}},
		{many, 2 << 32, api.Rank{N: many, A: 29, C: (2 << 32) % many}},
		{many, 2332650 << 32, api.Rank{N: many, A: 2332651, C: (2332650 << 32) % many}},
	} {
		if r, e := peels.RankOf(row.n, row.seed); r != row.want || e != api.OK || peels.Check(r) != api.OK {
			t.Errorf("P14.2: RankOf(%d, %d): %v, %d, want %v", row.n, row.seed, r, e, row.want)
		}
	}
	for _, n := range []uint32{0, most + 1, most + 2, math.MaxUint32} {
		for _, seed := range []uint64{0, 1, 1 << 32, none} {
			if r, e := peels.RankOf(n, seed); r != (api.Rank{}) || e != api.ErrArg {
				t.Errorf("P14.2: RankOf(%d, %d): %v, %d", n, seed, r, e)
			}
		}
	}
}

// P14.2: at random, against the chapter's words: no number from a on up to A but A itself is alone with n.
func TestRanksAtRandom(t *testing.T) {
	rnd := rand.New(rand.NewPCG(2, 142))
	later := 0
	for i := range 20000 {
		n := []uint32{1 + rnd.Uint32N(40), 1 + rnd.Uint32N(most), many, second, 30030, 1 << 30}[i%6]
		seed := rnd.Uint64()
		if i%5 == 0 {
			seed = anyWord(rnd)
		}
		r, e := peels.RankOf(n, seed)
		if e != api.OK || r.N != n || uint64(r.C) != seed%uint64(n) || peels.Check(r) != api.OK {
			t.Fatalf("P14.2: RankOf(%d, %d): %v, %d", n, seed, r, e)
		}
		a := uint32(seed / (1 << 32) % uint64(n))
		for ; !alone(a, n); a = (a + 1) % n {
			later++
		}
		if r.A != a {
			t.Fatalf("P14.2: RankOf(%d, %d): %v, want A %d", n, seed, r, a)
		}
	}
	if later < 5000 {
		t.Errorf("too little was tried: %d", later)
	}
}
