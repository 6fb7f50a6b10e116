package sieve_test

import (
	"math"
	"math/rand"
	"testing"

	"sluice/api"
	"sluice/sieve"
)

// P9.1
func TestSplitRefusals(t *testing.T) {
	for _, x := range []struct {
		n uint32
		k int
	}{
		{0, 0}, {0, 1}, {0, -1}, {1, 0}, {1, -1}, {1, 2}, {3, 4}, {511, 512}, {600, 513}, {1 << 31, 1}, {1 << 31, 512}, {math.MaxUint32, 2},
		{10, math.MinInt}, {10, math.MaxInt}, {api.MaxVertices, 513}, {api.MaxVertices, 1 << 32}, {api.MaxVertices, 1<<32 + 1}, {5, 1<<32 + 1}, {5, -1 << 32},
	} {
		if c, err := sieve.Split(x.n, x.k); err != api.ErrCut || c != (sieve.Ranges{}) {
			t.Errorf("Split(%d, %d): %v %v", x.n, x.k, c, err)
		}
	}
}

// P9.1, P9.2
func TestSplitBounds(t *testing.T) {
	for _, x := range []struct {
		n uint32
		k int
	}{{1, 1}, {2, 1}, {2, 2}, {3, 2}, {512, 512}, {513, 512}, {1023, 512}, {1024, 512}, {api.MaxVertices, 1}, {api.MaxVertices, 2}, {api.MaxVertices, 511}, {api.MaxVertices, 512}} {
		c := split(t, x.n, x.k)
		if c.Parts() != x.k || c.Vertices() != x.n {
			t.Errorf("Split(%d, %d): %d parts, %d vertices", x.n, x.k, c.Parts(), c.Vertices())
		}
		at := uint32(0)
		for p := range x.k {
			lo, hi := c.Span(p)
			size := x.n / uint32(x.k)
			if uint32(p) < x.n%uint32(x.k) {
				size++
			}
			if lo != at || hi != at+size {
				t.Fatalf("Split(%d, %d): Span(%d) is %d to %d, want %d to %d", x.n, x.k, p, lo, hi, at, at+size)
			}
			for _, v := range []uint32{lo, lo + (hi-lo)/2, hi - 1} {
				if c.Part(v) != p {
					t.Fatalf("Split(%d, %d): Part(%d) is %d, want %d", x.n, x.k, v, c.Part(v), p)
				}
			}
			at = hi
		}
		if at != x.n {
			t.Errorf("Split(%d, %d): the parts end at %d", x.n, x.k, at)
		}
	}
}

// P9.1, P9.2: example 1
func TestSplitExample(t *testing.T) {
	c := split(t, 10, 4)
	for p, want := range [][2]uint32{{0, 3}, {3, 6}, {6, 8}, {8, 10}} {
		if lo, hi := c.Span(p); lo != want[0] || hi != want[1] {
			t.Errorf("Span(%d): %d, %d", p, lo, hi)
		}
	}
	for v, want := range []int{0, 0, 0, 1, 1, 1, 2, 2, 3, 3, -1, -1} {
		if got := c.Part(uint32(v)); got != want {
			t.Errorf("Part(%d): %d", v, got)
		}
	}
}

// P9.2
func TestPartsThatAreNone(t *testing.T) {
	c := split(t, 10, 4)
	for _, p := range []int{-1, 4, 5, math.MinInt, math.MaxInt, 1 << 32, -1 << 32} {
		if lo, hi := c.Span(p); lo != 0 || hi != 0 {
			t.Errorf("Span(%d): %d, %d", p, lo, hi)
		}
	}
	for _, v := range []uint32{10, 11, 1 << 31, math.MaxUint32} {
		if got := c.Part(v); got != -1 {
			t.Errorf("Part(%d): %d", v, got)
		}
	}
	if got := split(t, api.MaxVertices, 3).Part(api.MaxVertices); got != -1 {
		t.Errorf("Part of the vertex behind the last: %d", got)
	}
}

// P9.2, P9.3
func TestZeroRanges(t *testing.T) {
	var c sieve.Ranges
	if c.Parts() != 0 || c.Vertices() != 0 {
		t.Errorf("%d parts, %d vertices", c.Parts(), c.Vertices())
	}
	for _, v := range []uint32{0, 1, math.MaxUint32} {
		if c.Part(v) != -1 || c.BySrc(api.Edge{Src: v}) != -1 || c.ByDst(api.Edge{Dst: v}) != -1 || c.ByTo(api.Update{To: v}) != -1 {
			t.Errorf("%d has a part", v)
		}
	}
	for _, p := range []int{-1, 0, 1} {
		if lo, hi := c.Span(p); lo != 0 || hi != 0 {
			t.Errorf("Span(%d): %d, %d", p, lo, hi)
		}
	}
}

// P9.2, P9.3: against 0.2's words, all vertices of small graphs and some of greater ones
func TestEveryPart(t *testing.T) {
	for n := uint32(1); n <= 40; n++ {
		for k := 1; k <= int(n); k++ {
			c := split(t, n, k)
			for v := range n + 2 {
				holdPart(t, c, n, k, v)
			}
		}
	}
	r := rand.New(rand.NewSource(1))
	for range 3000 {
		n := uint32(r.Int63n(api.MaxVertices)) + 1
		if r.Intn(2) == 0 {
			n = n%2000 + 1
		}
		k := r.Intn(min(int(n), api.MaxParts)) + 1
		holdPart(t, split(t, n, k), n, k, uint32(r.Int63n(int64(n)+3)))
	}
}

func holdPart(t *testing.T, c sieve.Ranges, n uint32, k int, v uint32) {
	t.Helper()
	want := partOf(n, k, v)
	other := uint32(0)
	if v == 0 {
		other = n - 1
	}
	if c.Part(v) != want || c.BySrc(api.Edge{Src: v, Dst: other, W: other}) != want || c.ByDst(api.Edge{Src: other, Dst: v, W: other}) != want || c.ByTo(api.Update{To: v, A: uint64(other), B: uint64(other)}) != want {
		t.Fatalf("%d of %d vertices in %d parts: %d, want %d", v, n, k, c.Part(v), want)
	}
	if want < 0 {
		return
	}
	if lo, hi := c.Span(want); v < lo || v >= hi {
		t.Fatalf("%d of %d vertices in %d parts: Span(%d) is %d to %d", v, n, k, want, lo, hi)
	}
}

// P9.3: a record's part by a method expression and by a method value
func TestPartFunctions(t *testing.T) {
	c := split(t, 10, 4)
	e := api.Edge{Src: 7, Dst: 3, W: 9}
	bySrc, byDst := sieve.Ranges.BySrc, sieve.Ranges.ByDst
	if bySrc(c, e) != 2 || byDst(c, e) != 1 || c.BySrc(e) != 2 || c.ByDst(e) != 1 {
		t.Errorf("%d, %d", bySrc(c, e), byDst(c, e))
	}
	byTo := c.ByTo
	c = split(t, 2, 1) // the method value has its own ranges
	if got := byTo(api.Update{To: 9, A: 1, B: 2}); got != 3 {
		t.Errorf("ByTo: %d", got)
	}
}
