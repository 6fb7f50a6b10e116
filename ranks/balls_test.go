package ranks_test

import (
	"math"
	"math/big"
	"math/rand/v2"
	"testing"

	"sluice/api"
	"sluice/ranks"
)

// Example 4, P15.9: Size of sets, against a second reading.
func TestSize(t *testing.T) {
	for _, row := range []struct{ set, want uint64 }{
		{0, 0x412c49ba}, {none, 0x48ac49ba}, // all 0: 10.768; all 15: 2^15 times that
		{0x1111111111111111, 0x41ac49ba}, {0x0123456789abcdef, 0x42ac4a66}, {0xf, 0x4137c603}, {0xf << 60, 0x4137c603},
	} {
		for _, rest := range []uint64{0, 7, none} {
			if got := ranks.Size(api.State{row.set, rest, rest, rest, rest, rest, rest, rest}); uint64(got) != row.want {
				t.Errorf("P15.9: Size(%x): %x, want %x", row.set, got, row.want)
			}
		}
	}
	rnd := rand.New(rand.NewPCG(1, 150))
	for range 20000 {
		set := rnd.Uint64() & rnd.Uint64() << rnd.IntN(64)
		if rnd.IntN(2) == 0 {
			set = ^set
		}
		var r registers
		for i := range r {
			r[i] = set / uint64(math.Exp2(float64(4*i))) % 16
		}
		if got := ranks.Size(api.State{set}); got != r.size() || r.word() != set {
			t.Fatalf("P15.9: Size(%x): %x, want %x", set, got, r.size())
		}
	}
}

// P15.8: the first set of a vertex, at numbers at their ends: registers of 14 and 15, and no 1 bit.
func TestFirstSets(t *testing.T) {
	for _, v := range []uint32{0, 1, 5, 1<<31 - 2, math.MaxUint32} {
		for _, row := range []struct{ z, set uint64 }{
			{0, 15}, {15, 15 << 60}, {7, 15 << 28}, // no 1 bit
			{1 << 4, 1}, {1<<4 | 15, 1 << 60}, {3 << 4, 1}, {2 << 4, 2}, {none, 1 << 60}, {none - 31, 2}, {none - 15, 1},
			{1<<16 | 3, 13 << 12}, {1<<17 | 3, 14 << 12}, {1<<18 | 3, 15 << 12}, {1<<19 | 3, 15 << 12}, {1<<20 | 3, 15 << 12}, {1<<63 | 3, 15 << 12}, {none - (1<<17 - 1) + 3, 14 << 12},
		} {
			p := kernel{name: "balls", n: 9, rounds: 3, seed: seedFor(row.z, v)}.ranker(t)
			if s := began(t, p, v, api.Degrees{Out: 4, In: 5}); s[0] != row.set {
				t.Errorf("P15.8: %x: %x, want %x", row.z, s[0], row.set)
			}
		}
	}
	rnd := rand.New(rand.NewPCG(2, 150))
	for range 20000 {
		seed, v := rnd.Uint64(), rnd.Uint32()
		p := kernel{name: "balls", n: 9, rounds: 3, seed: seed}.ranker(t)
		if s := began(t, p, v, api.Degrees{}); s[0] != single(mixed(seed, v)).word() {
			t.Fatalf("P15.8: %d %d: %x", seed, v, s)
		}
	}
}

// P15.8: along a chain a set comes one step a round; `rounds` ends a run that would go on; one more round tells that nothing changes.
func TestBallsOfChains(t *testing.T) {
	var chain []api.Edge
	for v := range uint32(9) {
		chain = append(chain, api.Edge{Src: v, Dst: v + 1})
	}
	seed := seedFor(1<<63|5, 0) // the first one's number is 15: it changes all others
	for rounds := 1; rounds <= 14; rounds++ {
		k := kernel{name: "balls", n: 10, kind: api.EPlain, rounds: rounds, seed: seed, edges: chain}
		s, stats, _ := k.run(t)
		if stats.Rounds != min(rounds, 10) {
			t.Errorf("P15.8: %d rounds: %v", rounds, stats)
		}
		for v, state := range s {
			if reached := state[0]>>20&15 == 15; reached != (v <= rounds) {
				t.Errorf("P15.8: %d rounds: vertex %d: %x", rounds, v, state[0])
			}
		}
	}
}

// P15.8: no edges, a loop, a circle, several edges between two: sums in Agg, and when it is done.
func TestBalls(t *testing.T) {
	for _, edges := range [][]api.Edge{nil, between(0, 0), between(0, 1, 1, 2, 2, 0), between(0, 1, 0, 1, 1, 0, 3, 3), between(3, 0, 3, 1, 3, 2, 3, 3)} {
		for seed := range uint64(20) {
			k := kernel{name: "balls", n: 4, kind: api.EPlain, rounds: api.MaxRanked, seed: seed, edges: edges}
			s, stats, agg := k.run(t)
			sum := new(big.Rat)
			for _, state := range s {
				sum.Add(sum, fraction(ranks.Size(state)))
			}
			if ranks.Pairs(agg) != near(sum) || stats.Rounds > 4 || edges == nil && stats.Rounds != 1 {
				t.Errorf("P15.8, P15.9: %v: %x %v", edges, ranks.Pairs(agg), stats)
			}
		}
	}
}

// P15.9: Pairs of any aggregate, also beyond the greatest float32, below zero, and whatever stands in the words behind.
func TestPairs(t *testing.T) {
	rnd := rand.New(rand.NewPCG(3, 150))
	great := mul(fraction(0x7f7fffff), whole(uint32(2)))
	for _, row := range []struct {
		sum  *big.Rat
		want uint32
	}{
		{new(big.Rat), 0}, {fraction(1), 1}, {fraction(0x80000001), 0x80000001}, {fraction(0x7f7fffff), 0x7f7fffff}, {great, inf}, {new(big.Rat).Neg(great), inf | minus},
		{add(fraction(0x7f7fffff), fraction(0x73000000)), inf}, {add(fraction(0x7f7fffff), fraction(0x72ffffff)), 0x7f7fffff},
		{add(fraction(0x4b800000), fraction(one)), 0x4b800000}, {add(fraction(0x4b800002), fraction(one)), 0x4b800002}, {add(fraction(0x4b800001), fraction(one)), 0x4b800002},
	} {
		agg := sumOf(row.sum)
		for range 3 {
			if got := ranks.Pairs(agg); got != row.want {
				t.Errorf("P15.9: Pairs of %v: %x, want %x", row.sum, got, row.want)
			}
			agg[6], agg[7] = anyWord(rnd), anyWord(rnd)
		}
	}
	if got := ranks.Pairs(api.State{none, none, none, none, none, none}); got != 0x80000001 {
		t.Errorf("P15.9: Pairs of one unit below zero: %x", got)
	}
	for range 5000 {
		agg := anyState(rnd)
		n := new(big.Int)
		for i := 5; i >= 0; i-- {
			n.Or(n.Lsh(n, 64), new(big.Int).SetUint64(agg[i]))
		}
		if agg[5]>>63 == 1 {
			n.Sub(n, new(big.Int).Lsh(big.NewInt(1), 384))
		}
		want := near(new(big.Rat).SetFrac(n, new(big.Int).Lsh(big.NewInt(1), 149)))
		if got := ranks.Pairs(agg); got != want {
			t.Fatalf("P15.9: Pairs of %x: %x, want %x", agg, got, want)
		}
	}
}

// P15.8: what comes is gathered number by number, by whatever the Sink says; who has not changed sends nothing.
func TestBallCalls(t *testing.T) {
	rnd := rand.New(rand.NewPCG(4, 150))
	p := kernel{name: "balls", n: 9, rounds: 9, seed: 3}.ranker(t)
	if w := p.Words(); w < 1 || w > api.StateWords {
		t.Fatalf("P15.8: %d words", w)
	}
	for range 5000 {
		v := rnd.Uint32()
		s := began(t, p, v, api.Degrees{})
		if a, _, send, e := p.Scatter(api.Ctl{}, s, api.Edge{Src: v, Dst: 2}, false); a != s[0] || !send || e != api.OK {
			t.Fatalf("P15.8: the first round: %x %v %d", a, send, e)
		}
		came := rnd.Uint64() & rnd.Uint64() & rnd.Uint64()
		if rnd.IntN(3) == 0 {
			came = s[0] & rnd.Uint64() & 0x8888888888888888
		}
		want := uint64(0)
		for i := range 16 {
			want |= max(s[0]>>(4*i)&15, came>>(4*i)&15) << (4 * i)
		}
		last := s
		s[p.Sink().A] = gather(s[p.Sink().A], came)
		next, changed, e := p.Apply(api.Ctl{}, api.State{}, v, s)
		if next[0] != want || changed != (want != last[0]) || e != api.OK {
			t.Fatalf("P15.8: Apply: %x %v %d, want %x", next, changed, e, want)
		}
		if a, b, send, e := p.Scatter(api.Ctl{}, next, api.Edge{Src: v, Dst: 2}, false); send != changed || send && a != want || !send && a != 0 || b != 0 || e != api.OK {
			t.Fatalf("P15.8: Scatter: %x %v %d", a, send, e)
		}
		again, changed, e := p.Apply(api.Ctl{}, api.State{}, v, next)
		if again[0] != want || changed || e != api.OK {
			t.Fatalf("P15.8: nothing came: %x %v %d", again, changed, e)
		}
		sum := sumOf(fraction(one))
		agg, e := p.Fold(api.Ctl{}, sum, v, next)
		if agg != sumOf(add(fraction(one), fraction(ranks.Size(next)))) || e != api.OK {
			t.Fatalf("P15.8: Fold: %x %d", agg, e)
		}
	}
	if s := p.Sink(); s.MonA != api.MonNibbles || s.MonB != api.MonNone {
		t.Errorf("P15.8: %v", s)
	}
}

// gather tells, of two words of sixteen numbers, the greater of each.
func gather(x, y uint64) (out uint64) {
	for i := range 16 {
		out |= max(x>>(4*i)&15, y>>(4*i)&15) << (4 * i)
	}
	return out
}
