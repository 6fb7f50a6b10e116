package knots_test

import (
	"math"
	"math/rand/v2"
	"slices"
	"testing"

	"sluice/api"
	"sluice/knots"
	"sluice/wheel"
)

// A Knots is an api.Program.
var _ api.Program = (*knots.Knots)(nil)

// P16.1 to P16.3: n at its bounds and one beyond.
func TestLimits(t *testing.T) {
	for _, name := range names {
		for n, ok := range map[uint32]bool{0: false, 1: true, 2: true, api.MaxVertices - 1: true, api.MaxVertices: true, api.MaxVertices + 1: false, math.MaxUint32: false} {
			p, e := makeOf(name, n)
			if ok != (p != nil) || ok != (e == api.OK) || !ok && e != api.ErrArg {
				t.Errorf("%s of %d: %v, %d", name, n, p, e)
			}
		}
	}
}

// P16.1 to P16.3: what is told of a word at its ends, whatever the other words are.
func TestTold(t *testing.T) {
	rnd := rand.New(rand.NewPCG(1, 161))
	for _, row := range []struct {
		word   uint64
		knot   bool
		level  bool
		colour bool
	}{
		{0, true, true, true}, {1, true, true, true}, {2, true, true, false}, {3, true, true, false}, {1 << 31, true, true, false},
		{math.MaxUint32 - 1, true, true, false}, {math.MaxUint32, true, true, false}, {1 << 32, false, true, false}, {1<<32 + 1, false, true, false},
		{1 << 63, false, true, false}, {1<<63 + 1, false, true, false}, {none - 1, false, true, false}, {none, false, false, false},
	} {
		for range 20 {
			s := anyState(rnd)
			s[0] = row.word
			if k, ok := knots.Knot(s); ok != row.knot || ok && uint64(k) != row.word || !ok && k != 0 {
				t.Errorf("P16.1: Knot of %d: %d, %v", row.word, k, ok)
			}
			if l, ok := knots.Level(s); ok != row.level || ok && l != row.word || !ok && l != 0 {
				t.Errorf("P16.2: Level of %d: %d, %v", row.word, l, ok)
			}
			if c, ok := knots.Colour(s); ok != row.colour || ok && uint64(c) != row.word || !ok && c != 0 {
				t.Errorf("P16.3: Colour of %d: %d, %v", row.word, c, ok)
			}
		}
	}
}

// P16.1 to P16.3: which of them go backwards; those want back edges, Topo runs without.
func TestBoth(t *testing.T) {
	for name, both := range map[string]bool{"scc": true, "topo": false, "colour": true} {
		p := kernel{name: name, n: 3}.program(t)
		want := api.OK
		if both {
			want = api.ErrBack
		}
		if _, _, e := wheel.Memory(3, false, between(0, 1), p, 60, 1); p.Both() != both || e != want {
			t.Errorf("%s: goes backwards: %v, without back edges: %d", name, p.Both(), e)
		}
	}
}

// Of a nil Knots, and of one that no call has made: ErrNil where there is an error to answer, else zero.
func TestNoKnots(t *testing.T) {
	for what, p := range map[string]*knots.Knots{"nil": nil, "a zero one": new(knots.Knots)} {
		if p.Words() != 0 || p.Both() || p.Sink() != (api.Sink{}) {
			t.Errorf("%s: %d %v %v", what, p.Words(), p.Both(), p.Sink())
		}
		c, s := api.Ctl{1, 2, 3, 4}, api.State{1, 2, 3, 4, 5, 6, 7, 8}
		if got, e := p.Start(3, api.Degrees{Out: 1, In: 2}); got != (api.State{}) || e != api.ErrNil {
			t.Errorf("%s: Start: %v %d", what, got, e)
		}
		for _, back := range []bool{false, true} {
			if a, b, send, e := p.Scatter(c, s, api.Edge{Src: 1, Dst: 2, W: 3}, back); a != 0 || b != 0 || send || e != api.ErrNil {
				t.Errorf("%s: Scatter: %d %d %v %d", what, a, b, send, e)
			}
		}
		if got, changed, e := p.Apply(c, s, 3, s); got != (api.State{}) || changed || e != api.ErrNil {
			t.Errorf("%s: Apply: %v %v %d", what, got, changed, e)
		}
		if got, e := p.Fold(c, s, 3, s); got != (api.State{}) || e != api.ErrNil {
			t.Errorf("%s: Fold: %v %d", what, got, e)
		}
		if got, done, e := p.Turn(c, s, 3, 4); got != (api.Ctl{}) || done || e != api.ErrNil {
			t.Errorf("%s: Turn: %v %v %d", what, got, done, e)
		}
		if _, _, e := wheel.Memory(1, true, nil, p, 1, 1); e != api.ErrProgram {
			t.Errorf("%s: run: %d", what, e)
		}
	}
}

// None of them answers an error or panics, whatever it is given; weights are not looked at; where nothing is sent, nothing is told; Topo sends nothing backwards.
func TestWhateverIsGiven(t *testing.T) {
	rnd := rand.New(rand.NewPCG(2, 161))
	for _, name := range names {
		for range 20000 {
			p := kernel{name: name, n: 1 + rnd.Uint32N(9)}.program(t)
			c := api.Ctl{anyWord(rnd), anyWord(rnd), anyWord(rnd), anyWord(rnd)}
			s, agg := anyState(rnd), anyState(rnd)
			v, back := rnd.Uint32()>>rnd.IntN(33), rnd.IntN(2) == 0
			edge := api.Edge{Src: v, Dst: rnd.Uint32() >> rnd.IntN(33)}
			a, b, send, e1 := p.Scatter(c, s, edge, back)
			edge.W = rnd.Uint32()
			if x, y, z, _ := p.Scatter(c, s, edge, back); x != a || y != b || z != send {
				t.Fatalf("%s: %v: %d %d %v, by its weight %d %d %v", name, edge, a, b, send, x, y, z)
			}
			if !send && (a != 0 || b != 0) || send && back && name == "topo" {
				t.Fatalf("%s: Scatter(%v, %v, %v, %v): %d %d %v", name, c, s, edge, back, a, b, send)
			}
			_, e2 := p.Start(v, api.Degrees{Out: anyWord(rnd), In: anyWord(rnd)})
			next, _, e3 := p.Apply(c, agg, v, s)
			_, e4 := p.Fold(c, agg, v, s)
			_, _, e5 := p.Turn(c, agg, anyWord(rnd), int(anyWord(rnd)))
			if e1 != api.OK || e2 != api.OK || e3 != api.OK || e4 != api.OK || e5 != api.OK {
				t.Fatalf("%s answers %d %d %d %d %d", name, e1, e2, e3, e4, e5)
			}
			if slices.Max(next[p.Words():]) != 0 {
				t.Fatalf("%s: Apply leaves %v in words that are not kept", name, next)
			}
		}
	}
}

// P16.1 to P16.3: word 0 of the aggregate counts, the other words stay.
func TestFold(t *testing.T) {
	rnd := rand.New(rand.NewPCG(3, 161))
	for _, name := range names {
		k := kernel{name: name, n: 3}
		for _, word := range []uint64{0, 1, 2, 3, math.MaxUint32, none - 1, none} {
			agg, s := anyState(rnd), anyState(rnd)
			s[0] = word
			want := agg
			if word == k.mark() {
				want[0]++
			}
			if got, e := k.program(t).Fold(api.Ctl{anyWord(rnd)}, agg, rnd.Uint32(), s); got != want || e != api.OK {
				t.Errorf("%s: Fold of %d: %v, want %v", name, word, got, want)
			}
		}
	}
}

// Over a graph of more vertices, or of fewer, than the program was made for, it gives what it gives; but the run ends.
func TestOtherGraphs(t *testing.T) {
	rnd := rand.New(rand.NewPCG(4, 161))
	for i := range 300 {
		k := anyKernel(rnd, names[i%3], 20)
		for _, n := range []uint32{1, k.n / 2, k.n + 1, api.MaxVertices} {
			p, _ := makeOf(k.name, max(n, 1))
			if _, _, e := wheel.Memory(k.n, true, k.edges, p, 2000, 2); e != api.OK && e != api.ErrCap {
				t.Errorf("%s of %d over %d: %d", k.name, n, k.n, e)
			}
		}
	}
}

// given tells a graph and what is asked of it, by all three.
type given struct {
	what                string
	n                   uint32
	edges               []api.Edge
	scc, levels, colour []uint64
}

// hold runs all three programs.
func (g given) hold(t *testing.T) {
	t.Helper()
	for i, want := range [][]uint64{g.scc, g.levels, g.colour} {
		k := kernel{name: names[i], n: g.n, kind: api.EPlain, edges: g.edges}
		if states, _, _ := k.run(t); !slices.Equal(firsts(states), want) {
			t.Errorf("%s: %s: %v, want %v", g.what, names[i], firsts(states), want)
		}
	}
}

// The chapter's examples.
func TestExamples(t *testing.T) {
	for _, g := range []given{
		{"1", 5, between(0, 1, 1, 2, 2, 0, 2, 3, 3, 4), []uint64{0, 0, 0, 3, 4}, []uint64{none, none, none, none, none}, []uint64{2, 2, 2, 2, 2}},
		{"2", 4, between(3, 1, 1, 0, 3, 0), []uint64{0, 1, 2, 3}, []uint64{2, 1, 0, 0}, []uint64{2, 2, 0, 2}},
		{"3", 2, between(0, 1, 1, 0, 0, 1), []uint64{0, 0}, []uint64{none, none}, []uint64{0, 1}},
		{"4", 1, nil, []uint64{0}, []uint64{0}, []uint64{0}},
		{"4, with the loop", 1, between(0, 0), []uint64{0}, []uint64{none}, []uint64{2}},
	} {
		g.hold(t)
	}
}

// Graphs whose results are plain to see.
func TestPlainGraphs(t *testing.T) {
	for _, g := range []given{
		{"the least comes last", 4, between(3, 2, 2, 1, 1, 3, 3, 0), []uint64{0, 1, 1, 1}, []uint64{none, none, none, none}, []uint64{2, 2, 2, 2}},
		{"two ways, of which the shorter is met first", 5, between(4, 0, 4, 3, 3, 2, 2, 0, 0, 1), []uint64{0, 1, 2, 3, 4}, []uint64{3, 4, 2, 1, 0}, []uint64{0, 1, 1, 0, 1}},
		{"several edges that are the same", 3, between(1, 0, 1, 0, 1, 0, 0, 2, 0, 2), []uint64{0, 1, 2}, []uint64{1, 0, 2}, []uint64{0, 1, 1}},
		{"a loop in a component of its own", 3, between(1, 1, 0, 2), []uint64{0, 1, 2}, []uint64{0, none, 1}, []uint64{0, 2, 1}},
		{"a vertex between two rings", 5, between(0, 1, 1, 0, 1, 2, 2, 3, 3, 4, 4, 3), []uint64{0, 0, 2, 3, 3}, []uint64{none, none, none, none, none}, []uint64{0, 1, 0, 1, 0}},
		{"a vertex ahead of a ring", 3, between(2, 0, 0, 1, 1, 0), []uint64{0, 0, 2}, []uint64{none, none, 0}, []uint64{0, 1, 1}},
		{"two components: one of odd, one of even length", 7, between(0, 2, 2, 4, 4, 0, 1, 3, 3, 5, 5, 6, 6, 1), []uint64{0, 1, 0, 1, 0, 1, 1}, []uint64{none, none, none, none, none, none, none}, []uint64{2, 0, 2, 1, 2, 0, 1}},
		{"the least vertex far off", 5, between(4, 3, 3, 2, 2, 1, 1, 0), []uint64{0, 1, 2, 3, 4}, []uint64{4, 3, 2, 1, 0}, []uint64{0, 1, 0, 1, 0}},
	} {
		g.hold(t)
	}
}

// P16.2: without back edges all In are 0: nothing leads to any vertex, as far as can be seen.
func TestTopoWithoutBackEdges(t *testing.T) {
	for seed := range uint64(200) {
		k := anyKernel(rand.New(rand.NewPCG(seed, 162)), "topo", 20)
		states, stats, e := wheel.Memory(k.n, false, k.edges, k.program(t), k.bound(), 2)
		if e != api.OK || slices.Max(firsts(states)) != 0 || stats.Rounds > k.bound() {
			t.Fatalf("P16.2: %v %v %d: %+v", states, stats, e, k)
		}
	}
}

// P16.1 to P16.3: the bounds of rounds, and the results, over graphs that need many, of each size, in either direction, however they are numbered.
func TestShapes(t *testing.T) {
	most := map[string]int{}
	for _, n := range []uint32{1, 2, 3, 4, 5, 6, 7, 8, 9, 10, 11, 12, 13, 24, 25} {
		for _, s := range shapes() {
			for how, order := range numberings(int(n)) {
				for _, edges := range [][]api.Edge{renamed(s.make(n), order), turned(renamed(s.make(n), order))} {
					for _, name := range names {
						k := kernel{name: name, n: n, kind: api.EPlain, edges: edges}
						_, stats, _ := k.run(t)
						if stats.Rounds > k.bound() {
							t.Errorf("%s: %s, %s: %d rounds of %d vertices", name, s.name, how, stats.Rounds, n)
						}
						most[name] = max(most[name], stats.Rounds)
					}
				}
			}
		}
	}
	if most["scc"] < 60 || most["topo"] < 24 || most["colour"] < 40 {
		t.Errorf("too little was tried: %v", most)
	}
}

// What needs few rounds has few: neither a way nor a comb, however it is numbered, has SCC go over it vertex by vertex.
func TestChainsAreShort(t *testing.T) {
	for _, s := range shapes() {
		if s.name != "a way" && s.name != "a comb" && s.name != "a comb whose teeth lead in" && s.name != "all loops" {
			continue
		}
		for how, order := range numberings(60) {
			k := kernel{name: "scc", n: 60, kind: api.EPlain, edges: renamed(s.make(60), order)}
			if _, stats, _ := k.run(t); stats.Rounds > 3*60+4 {
				t.Errorf("P16.1: %s, %s: %d rounds", s.name, how, stats.Rounds)
			}
		}
	}
}

// What was said once is not said again, and a run ends as soon as it can: a vertex that leads to all others.
func TestLittleIsSaid(t *testing.T) {
	const n = 10
	for name, most := range map[string]api.Stats{"scc": {Rounds: 5, Updates: 2 * (n - 1)}, "topo": {Rounds: 1, Updates: n - 1}, "colour": {Rounds: 3, Updates: 5 * (n - 1)}} {
		k := kernel{name: name, n: n, kind: api.EPlain}
		for v := uint32(1); v < n; v++ {
			k.edges = append(k.edges, between(0, v)...)
		}
		if _, stats, _ := k.run(t); stats.Rounds > most.Rounds || stats.Updates > most.Updates {
			t.Errorf("%s: %v, at most %v", name, stats, most)
		}
	}
}

// P16.1 to P16.3: all graphs of at most three vertices, and all of four without loops.
func TestAllSmallGraphs(t *testing.T) {
	for n := uint32(1); n <= 4; n++ {
		var all []api.Edge
		for u := range n {
			for v := range n {
				if n < 4 || u != v {
					all = append(all, between(u, v)...)
				}
			}
		}
		for which := range 1 << len(all) {
			var edges []api.Edge
			for i, e := range all {
				if which>>i&1 == 1 {
					edges = append(edges, e)
				}
			}
			for _, name := range names {
				kernel{name: name, n: n, kind: api.EPlain, edges: edges}.run(t)
			}
		}
	}
}
