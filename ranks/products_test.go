package ranks_test

import (
	"math"
	"math/rand/v2"
	"slices"
	"testing"

	"sluice/api"
	"sluice/ranks"
)

// numbered tells all numbers of a product.
func numbered(states []api.State) (l []uint32) {
	for _, s := range states {
		l = append(l, ranks.Product(s))
	}
	return l
}

// whole numbers as float32, by their bits.
const (
	one   = 0x3f800000
	two   = 0x40000000
	minus = 1 << 31
	great = 0x7f7fffff
	inf   = 0x7f800000
)

// Example 2, P15.4, P15.5: sums that cancel exactly.
func TestProductExample(t *testing.T) {
	for seed := range uint64(50) {
		k := kernel{name: "products", n: 2, kind: api.EReal, seed: seed, edges: weighed(0, 1, two, two|minus)}
		s, stats, agg := k.run(t)
		if !slices.Equal(numbered(s), []uint32{0, 0}) || stats.Changed != 0 || stats.Rounds != 1 || agg != (api.State{}) || s[1] != (api.State{6: uint64(ranks.Unit(seed, 1))}) {
			t.Errorf("P15.4: example 2: %x %v %v", s, stats, agg)
		}
	}
}

// P15.4: the three kinds, and weights that are great, subnormal, beyond the greatest once added up, and that cancel.
func TestProducts(t *testing.T) {
	seed := seedFor(none, 0) // x is just below 1
	const x = 0x3f7fffff
	for _, row := range []struct {
		what  string
		kind  api.EdgeKind
		edges []api.Edge
		want  uint32
	}{
		{"no edge", api.EPlain, nil, 0},
		{"one", api.EPlain, weighed(0, 1, 0), x},
		{"two", api.EPlain, weighed(0, 1, 0, 0), x + 1<<23},
		{"W is not looked at", api.EPlain, weighed(0, 1, 7), x},
		{"counted 1", api.ECounted, weighed(0, 1, 1), x},
		{"counted 0", api.ECounted, weighed(0, 1, 0), 0},
		{"counted -1", api.ECounted, weighed(0, 1, math.MaxUint32), x | minus},
		{"counted, the least", api.ECounted, weighed(0, 1, 1<<31), 0xceffffff},
		{"counted, the greatest: rounded by itself, then times x", api.ECounted, weighed(0, 1, 1<<31-1), 0x4effffff},
		{"counted, rounded to even", api.ECounted, weighed(0, 1, 1<<24+1), 0x4b7fffff},
		{"counted, rounded to even, up", api.ECounted, weighed(0, 1, 1<<24+3), 0x4b800001},
		{"counted that cancel", api.ECounted, weighed(0, 1, 5, math.MaxUint32-4), 0},
		{"a real", api.EReal, weighed(0, 1, one), x},
		{"below zero", api.EReal, weighed(0, 1, two|minus), x + 1<<23 | minus},
		{"zeros of both signs", api.EReal, weighed(0, 1, 0, minus, minus), 0},
		{"the least: rounded up again", api.EReal, weighed(0, 1, 1), 1},
		{"subnormal", api.EReal, weighed(0, 1, 0x007fffff), 0x007fffff},
		{"the least normal, rounded up again", api.EReal, weighed(0, 1, 0x00800000), 0x00800000},
		{"the greatest", api.EReal, weighed(0, 1, great), 0x7f7ffffe},
		{"the greatest twice", api.EReal, weighed(0, 1, great, great), inf},
		{"the greatest twice, below zero", api.EReal, weighed(0, 1, great|minus, great|minus), inf | minus},
		{"the greatest twice, and back", api.EReal, weighed(0, 1, great, great, great|minus), 0x7f7ffffe},
		{"all but the least cancels", api.EReal, weighed(0, 1, great, 1, great, great|minus, great|minus), 1},
		{"just not infinite", api.EReal, weighed(0, 1, great, 0x73c00000), 0x7f7fffff},
		{"just infinite", api.EReal, weighed(0, 1, great, 0x73c00001), inf},
	} {
		k := kernel{name: "products", n: 2, kind: row.kind, seed: seed, edges: row.edges}
		s, stats, _ := k.run(t)
		changed := uint64(1)
		if row.want == 0 {
			changed = 0
		}
		if ranks.Product(s[1]) != row.want || ranks.Product(s[0]) != 0 || stats != (api.Stats{Rounds: 1, Edges: uint64(len(row.edges)), Updates: uint64(len(row.edges)), Changed: changed}) {
			t.Errorf("P15.4: %s: %x %v, want %x", row.what, numbered(s), stats, row.want)
		}
	}
}

// P15.4: products that fall below the least normal float32 are rounded as all others are.
func TestSubnormalProducts(t *testing.T) {
	rnd := rand.New(rand.NewPCG(1, 154))
	lost, ties := 0, 0
	for range 3000 {
		w := []uint32{1, 2, 3, 0x00800000, 0x01000000, rnd.Uint32N(1 << 25)}[rnd.IntN(6)] | uint32(rnd.IntN(2))<<31
		m := []uint64{0, 1, 1 << 23, 1<<23 + 1, 3 << 22, rnd.Uint64N(1 << 24)}[rnd.IntN(6)]
		k := kernel{name: "products", n: 1, kind: api.EReal, seed: seedFor(m<<40|rnd.Uint64N(1<<40), 0), edges: weighed(0, 0, w)}
		s, _, _ := k.run(t)
		if exact := mul(fraction(w), k.unit(0)); exact.Sign() != 0 && ranks.Product(s[0]) == 0 {
			lost++
		} else if exact.Cmp(fraction(ranks.Product(s[0]))) != 0 {
			ties++
		}
	}
	if lost < 100 || ties < 100 {
		t.Errorf("too little was tried: %d %d", lost, ties)
	}
}

// P15.4: a loop, and edges both ways: along each goes the number of where it comes from.
func TestProductsOfSeveral(t *testing.T) {
	for _, kind := range []api.EdgeKind{api.EPlain, api.ECounted, api.EReal} {
		for seed := range uint64(30) {
			rnd := rand.New(rand.NewPCG(seed, 155))
			edges := between(0, 0, 0, 1, 1, 0, 2, 2, 2, 2, 1, 2)
			for i := range edges {
				edges[i].W = anyWeight(rnd, kind)
			}
			kernel{name: "products", n: 4, kind: kind, seed: seed, edges: edges}.run(t)
		}
	}
}

// P15.4: what goes along an edge, of any weight; what Apply makes of any sum.
func TestProductCalls(t *testing.T) {
	rnd := rand.New(rand.NewPCG(2, 154))
	for range 3000 {
		k := anyKernel(rnd, "products", 9)
		p := k.ranker(t)
		v := rnd.Uint32()
		s := began(t, p, v, api.Degrees{Out: 3, In: 4})
		if s != (api.State{6: uint64(near(k.unit(v)))}) || p.Words() != 8 || p.Sink().MonA != api.MonTally || p.Sink().MonB != api.MonNone {
			t.Fatalf("P15.4: Start: %x", s)
		}
		e := api.Edge{Src: v, Dst: rnd.Uint32(), W: anyWeight(rnd, k.kind)}
		want := near(mul(k.weight(e), k.unit(v)))
		a, b, send, err := p.Scatter(api.Ctl{1}, s, e, false)
		if uint32(a)&^minus != want&^minus || a>>32 != 0 || b != 0 || !send || err != api.OK {
			t.Fatalf("P15.4: Scatter: %x %x %v %d, want %x", a, b, send, err, want)
		}
		sum := mul(fraction(rnd.Uint32N(inf)|uint32(rnd.IntN(2))<<31), whole(uint32(1+rnd.IntN(9))))
		came := sumOf(sum)
		came[6], came[7] = s[6], anyWord(rnd)
		next, changed, err := p.Apply(api.Ctl{1}, anyState(rnd), v, came)
		if next != (api.State{6: s[6], 7: uint64(near(sum))}) || changed != (sum.Sign() != 0) || err != api.OK {
			t.Fatalf("P15.4: Apply: %x %v %d, want %x", next, changed, err, near(sum))
		}
		agg, err := p.Fold(api.Ctl{1}, api.State{}, v, next)
		if agg != (api.State{}) || err != api.OK {
			t.Fatalf("P15.4: Fold: %x %d", agg, err)
		}
	}
}
