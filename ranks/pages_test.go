package ranks_test

import (
	"math"
	"math/big"
	"math/rand/v2"
	"testing"

	"sluice/api"
	"sluice/ranks"
)

// rankings tells all ranks.
func rankings(states []api.State) (l []uint32) {
	for _, s := range states {
		l = append(l, ranks.Rank(s))
	}
	return l
}

// Example 1, P15.2, P15.3: with the states behind each round, and further on till nothing changes.
func TestPageExample(t *testing.T) {
	for rounds, want := range map[int][]uint32{1: {0x3ec00000, 0x3f200000}, 2: {0x3ed00000, 0x3f180000}} {
		k := kernel{name: "pages", n: 2, kind: api.EPlain, damp: half, rounds: rounds, edges: between(0, 1)}
		s, stats, _ := k.run(t)
		if s[0] != (api.State{6: uint64(want[0]), 7: 1}) || s[1] != (api.State{6: uint64(want[1])}) || stats.Rounds != rounds || stats.Changed != uint64(2*rounds) {
			t.Errorf("P15.2: example 1: %d rounds: %x %v", rounds, s, stats)
		}
	}
	k := kernel{name: "pages", n: 2, kind: api.EPlain, damp: half, rounds: api.MaxRanked, edges: between(0, 1)}
	if _, stats, _ := k.run(t); stats.Rounds < 5 || stats.Rounds > 100 {
		t.Errorf("P15.2: till nothing changes: %v", stats)
	}
}

// P15.2: a loop of one vertex, and one without: nothing changes in the first round, though the sums are made.
func TestPagesAtRest(t *testing.T) {
	for what, edges := range map[string][]api.Edge{"no edges": nil, "a loop": between(0, 0), "two loops": between(0, 0, 0, 0)} {
		k := kernel{name: "pages", n: 1, kind: api.EPlain, damp: half, rounds: api.MaxRanked, edges: edges}
		s, stats, _ := k.run(t)
		if ranks.Rank(s[0]) != 0x3f800000 || s[0][7] != uint64(len(edges)) || stats != (api.Stats{Rounds: 1, Edges: uint64(len(edges)), Updates: uint64(len(edges))}) {
			t.Errorf("P15.2: %s: %x %v", what, s, stats)
		}
	}
	for _, edges := range [][]api.Edge{nil, between(0, 1, 1, 2, 2, 3, 3, 0), between(0, 0, 1, 1, 2, 2, 3, 3), between(0, 1, 0, 1, 1, 0, 1, 0, 2, 2, 3, 3)} {
		k := kernel{name: "pages", n: 4, kind: api.EPlain, damp: half, rounds: api.MaxRanked, edges: edges}
		if s, stats, _ := k.run(t); stats.Rounds != 1 || stats.Changed != 0 || ranks.Rank(s[3]) != 0x3e800000 {
			t.Errorf("P15.2: %v: %x %v", edges, rankings(s), stats)
		}
	}
}

// P15.2: loops, several edges between two vertices, vertices without out-edges, damping at its ends.
func TestPagesOfAllShapes(t *testing.T) {
	for _, damp := range []uint32{least, 0x00800000, half, 0x3f59999a, most} {
		for _, n := range []uint32{3, 7} {
			for _, edges := range [][]api.Edge{
				nil, between(0, 0), between(0, 1, 0, 1, 0, 2), between(0, 1, 0, 0, 1, 0), between(1, 0, 2, 0), between(0, 1, 1, 2, 2, 0, 2, 1, 2, 1, 2, 2),
			} {
				kernel{name: "pages", n: n, kind: api.EPlain, damp: damp, rounds: 40, edges: edges}.run(t)
			}
		}
	}
}

// began tells a vertex's first state.
func began(t *testing.T, p *ranks.Ranker, v uint32, d api.Degrees) api.State {
	t.Helper()
	s, e := p.Start(v, d)
	if e != api.OK {
		t.Fatal("Start:", e)
	}
	return s
}

// P15.2: N is the float32 of n; at the start 1 / N, and b where nothing comes.
func TestStartAndBase(t *testing.T) {
	for n, ok := range sizes {
		for _, damp := range []uint32{least, 0x30800000, 0x33000000, 0x33800001, 0x3dcccccd, half, 0x3f59999a, most} {
			if !ok {
				continue
			}
			k := kernel{name: "pages", n: n, damp: damp, rounds: 1}
			p := k.ranker(t)
			first := near(quo(whole(uint32(1)), rounded(whole(n))))
			s := began(t, p, 3, api.Degrees{Out: none, In: 7})
			if s != (api.State{6: uint64(first), 7: none}) || p.Words() != 8 {
				t.Errorf("P15.2: Start of %d: %x", n, s)
			}
			base := near(quo(rounded(sub(whole(uint32(1)), fraction(damp))), rounded(whole(n))))
			if got, changed, e := p.Apply(api.Ctl{}, api.State{}, 3, api.State{6: uint64(base), 7: 5}); got != (api.State{6: uint64(base), 7: 5}) || changed || e != api.OK {
				t.Errorf("P15.2: b of %d, %x: %x %v %d, want %x", n, damp, got, changed, e, base)
			}
			if got, changed, e := p.Apply(api.Ctl{}, api.State{}, 3, api.State{6: uint64(base ^ 1), 7: 5}); got != (api.State{6: uint64(base), 7: 5}) || !changed || e != api.OK {
				t.Errorf("P15.2: b of %d, %x: %x %v %d, want %x", n, damp, got, changed, e, base)
			}
		}
	}
}

// P15.2: what a vertex sends: its rank by the float32 of its out-degree.
func TestSent(t *testing.T) {
	p := kernel{name: "pages", n: 5, damp: half, rounds: 1}.ranker(t)
	rnd := rand.New(rand.NewPCG(1, 153))
	for range 3000 {
		rank := rnd.Uint32N(0x7f800000)
		degree := []uint64{1, 2, 3, 1<<24 - 1, 1 << 24, 1<<24 + 1, 1<<24 + 3, 1<<25 + 2, 1<<25 + 6, 1<<31 + 1, 1<<63 - 1, 1 << 63, 1<<63 + 1<<39, 1<<63 + 1<<39 + 1, none, 1 + rnd.Uint64()>>rnd.IntN(64)}[rnd.IntN(16)]
		if degree == 0 {
			continue
		}
		want := near(quo(fraction(rank), rounded(whole(degree))))
		a, b, send, e := p.Scatter(api.Ctl{1, 2}, api.State{9, 8, 7, 6, 5, 4, uint64(rank), degree}, api.Edge{Src: 9, Dst: 9, W: rnd.Uint32()}, false)
		if a != uint64(want) || b != 0 || !send || e != api.OK {
			t.Fatalf("P15.2: %x by %d: %x %x %v %d, want %x", rank, degree, a, b, send, e, want)
		}
	}
	sink := p.Sink()
	if sink.MonA != api.MonTally || sink.MonB != api.MonNone {
		t.Errorf("P15.2: %v", sink)
	}
}

// applied tells the rank that Apply makes of two exact sums.
func (k kernel) applied(t *testing.T, came, given *big.Rat) uint32 {
	t.Helper()
	s := sumOf(came)
	s[6], s[7] = 0x7fffffff, 3
	got, changed, e := k.ranker(t).Apply(api.Ctl{}, sumOf(given), 2, s)
	if got != (api.State{6: got[6], 7: 3}) || !changed || e != api.OK {
		t.Fatalf("P15.2: Apply: %x %v %d", got, changed, e)
	}
	return ranks.Rank(got)
}

// P15.2: each operation is rounded by itself: two at once, or all of them in float64, would give other bits.
func TestEachOperationForItself(t *testing.T) {
	rnd := rand.New(rand.NewPCG(2, 153))
	others := map[string]int{}
	for range 6000 {
		k := kernel{name: "pages", n: 1 + rnd.Uint32N(1<<rnd.IntN(31)), damp: 0x3e000000 + rnd.Uint32N(0x1800000), rounds: 1}
		n, d := rounded(whole(k.n)), fraction(k.damp)
		came := quo(fraction(0x3c000000+rnd.Uint32N(1<<26)), rounded(quo(n, whole(uint32(1<<rnd.IntN(6))))))
		came = add(rounded(came), fraction(rnd.Uint32N(1<<23)+0x2f000000))
		given := add(fraction(0x3c000000+rnd.Uint32N(1<<26)), fraction(0x30000000+rnd.Uint32N(1<<24)))
		want := near(k.newRank(came, given))
		if got := k.applied(t, came, given); got != want {
			t.Fatalf("P15.2: %d %x: %x, want %x", k.n, k.damp, got, want)
		}
		one := whole(uint32(1))
		base := rounded(quo(rounded(sub(one, d)), n))
		share := rounded(quo(rounded(given), n))
		sum := rounded(add(rounded(came), share))
		for what, other := range map[string]*big.Rat{
			"b not rounded":     add(quo(rounded(sub(one, d)), n), rounded(mul(d, sum))),
			"1 - d not rounded": add(rounded(quo(sub(one, d), n)), rounded(mul(d, sum))),
			"times and plus":    add(base, mul(d, sum)),
			"plus and times":    add(base, rounded(mul(d, add(rounded(came), share)))),
			"by and plus":       add(base, rounded(mul(d, rounded(add(rounded(came), quo(rounded(given), n)))))),
			"s not rounded":     add(base, rounded(mul(d, rounded(add(came, share))))),
			"g not rounded":     add(base, rounded(mul(d, rounded(add(rounded(came), rounded(quo(given, n))))))),
			"g by n":            add(base, rounded(mul(d, rounded(add(rounded(came), rounded(quo(rounded(given), whole(k.n)))))))),
			"all at once":       add(quo(sub(one, d), n), mul(d, add(came, quo(given, n)))),
		} {
			if near(other) != want {
				others[what]++
			}
		}
	}
	for _, what := range []string{"b not rounded", "1 - d not rounded", "times and plus", "plus and times", "by and plus", "s not rounded", "g not rounded", "g by n", "all at once"} {
		if others[what] < 20 {
			t.Errorf("too little was tried: %s: %d", what, others[what])
		}
	}
}

// P15.2: sums beyond the greatest float32 are infinite, with their sign; a rank is what is reckoned with them.
func TestPagesBeyond(t *testing.T) {
	k := kernel{name: "pages", n: 2, damp: half, rounds: 1}
	great := mul(fraction(0x7f7fffff), whole(uint32(3)))
	zero := new(big.Rat)
	for _, row := range []struct {
		came, given *big.Rat
		want        uint32
	}{
		{great, zero, 0x7f800000}, {zero, great, 0x7f800000}, {great, great, 0x7f800000},
		{new(big.Rat).Neg(great), zero, 0xff800000}, {zero, new(big.Rat).Neg(great), 0xff800000},
		{fraction(0x7f7fffff), zero, 0x7effffff}, {fraction(0x7f7fffff), fraction(0x7f7fffff), 0x7f800000},
	} {
		if got := k.applied(t, row.came, row.given); got != row.want {
			t.Errorf("P15.2: %v %v: %x, want %x", row.came, row.given, got, row.want)
		}
	}
}

// P15.2: whose ranks are added up: those without out-edges, whatever else their states hold.
func TestGiven(t *testing.T) {
	p := kernel{name: "pages", n: 9, damp: half, rounds: 1}.ranker(t)
	agg := sumOf(fraction(0x40000000))
	for _, row := range []struct {
		s    api.State
		want api.State
	}{
		{api.State{6: 0x3f800000}, sumOf(fraction(0x40400000))},
		{api.State{9, 9, 9, 9, 9, 9, 0x3f800000, 0}, sumOf(fraction(0x40400000))},
		{api.State{6: 1}, sumOf(add(fraction(0x40000000), fraction(1)))},
		{api.State{6: 0xc0000000}, api.State{}},
		{api.State{6: 0x3f800000, 7: 1}, agg},
		{api.State{6: 0x3f800000, 7: 1 << 32}, agg},
		{api.State{6: 0x3f800000, 7: none}, agg},
	} {
		for _, v := range []uint32{0, 8, 9, math.MaxUint32} {
			if got, e := p.Fold(api.Ctl{1, 2}, agg, v, row.s); got != row.want || e != api.OK {
				t.Errorf("P15.2: Fold of %x: %x %d, want %x", row.s, got, e, row.want)
			}
		}
	}
}
