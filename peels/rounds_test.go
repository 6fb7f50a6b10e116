package peels_test

import (
	"math/rand/v2"
	"slices"
	"testing"

	"sluice/api"
	"sluice/wheel"
)

// triangle has a tail: example 4.
var triangle = between(0, 1, 1, 2, 2, 0, 2, 3)

// P14.5 to P14.7: the examples, and graphs with something special: word 0 of the result, the vertices that are decided in each round, the statistics of a run.
func TestExamples(t *testing.T) {
	for _, row := range []struct {
		what   string
		k      kernel
		want   []uint64
		rounds int
	}{
		{"example 1", kernel{"set", api.Rank{N: 4, A: 1}, between(0, 1, 1, 2, 2, 3)}, []uint64{1, 0, 1, 0}, 4},
		{"example 2", kernel{"set", api.Rank{N: 4, A: 1, C: 2}, between(0, 1, 1, 2, 2, 3)}, []uint64{1, 0, 1, 0}, 2},
		{"one vertex", kernel{"set", api.Rank{N: 1}, nil}, []uint64{1}, 1},
		{"one vertex with loops", kernel{"set", api.Rank{N: 1}, between(0, 0, 0, 0)}, []uint64{1}, 1},
		{"no edges", kernel{"set", api.Rank{N: 3, A: 2}, nil}, []uint64{1, 1, 1}, 1},
		{"against the edges", kernel{"set", api.Rank{N: 3, A: 1, C: 1}, between(0, 1, 1, 2)}, []uint64{1, 0, 1}, 2},
		{"several edges and a loop", kernel{"set", api.Rank{N: 3, A: 2, C: 2}, between(1, 0, 0, 1, 1, 0, 2, 2)}, []uint64{0, 1, 1}, 2},
		{"a star whose middle is last", kernel{"set", api.Rank{N: 4, A: 3, C: 3}, between(0, 1, 0, 2, 3, 0)}, []uint64{0, 1, 1, 1}, 2},
		{"example 3", kernel{"colour", api.Rank{N: 4, A: 1}, between(0, 1, 1, 2, 2, 3)}, []uint64{0, 1, 0, 1}, 4},
		{"a triangle", kernel{"colour", api.Rank{N: 3, A: 1}, between(0, 1, 1, 2, 2, 0)}, []uint64{0, 1, 2}, 3},
		{"a triangle the other way", kernel{"colour", api.Rank{N: 3, A: 2, C: 2}, between(0, 1, 1, 2, 2, 0)}, []uint64{2, 1, 0}, 3},
		{"one coloured vertex with a loop", kernel{"colour", api.Rank{N: 1}, between(0, 0)}, []uint64{0}, 1},
		{"colours without edges", kernel{"colour", api.Rank{N: 3, A: 1}, nil}, []uint64{0, 0, 0}, 1},
		{"several edges count as one", kernel{"colour", api.Rank{N: 2, A: 1}, between(0, 1, 0, 1, 1, 0)}, []uint64{0, 1}, 2},
		{"example 4", kernel{"core", api.Rank{N: 4}, triangle}, []uint64{2, 2, 2, 1}, 4},
		{"example 4: two edges", kernel{"core", api.Rank{N: 2}, between(0, 1, 0, 1)}, []uint64{2, 2}, 2},
		{"example 4: two edges, to and fro", kernel{"core", api.Rank{N: 2}, between(0, 1, 1, 0)}, []uint64{2, 2}, 2},
		{"example 4: a loop", kernel{"core", api.Rank{N: 1}, between(0, 0)}, []uint64{0}, 2},
		{"no edges at all", kernel{"core", api.Rank{N: 2}, nil}, []uint64{0, 0}, 2},
		{"loops count for nothing", kernel{"core", api.Rank{N: 3}, between(0, 0, 1, 2, 2, 2, 0, 0, 1, 1, 1, 1)}, []uint64{0, 1, 1}, 4},
	} {
		s, stats, _, e := row.k.run(t)
		if got := words(s, 0); e != api.OK || !slices.Equal(got, row.want) || stats.Rounds != row.rounds {
			t.Errorf("%s: %d in %d rounds, %d; want %d in %d", row.what, got, stats.Rounds, e, row.want, row.rounds)
		}
		row.k.right(t, s, e)
	}
}

// decisions tells the vertices that wait no longer, round by round.
func (k kernel) decisions(t *testing.T) (rounds [][]int) {
	t.Helper()
	w := &watched{Program: k.peel(t), states: make([]api.State, k.order.N)}
	gone := make([]bool, k.order.N)
	w.look = func(_ int, states []api.State, _ api.State, _ api.Ctl) {
		var now []int
		for v := range states {
			if states[v][1] != 0 && !gone[v] {
				now = append(now, v)
				gone[v] = true
			}
		}
		rounds = append(rounds, now)
	}
	if _, _, e := wheel.Memory(k.order.N, true, k.edges, w, k.most(), 1); e != api.OK {
		t.Fatal(e)
	}
	return rounds
}

// P14.3: in which round each vertex is decided, as examples 1 and 2 say it, and as Core's bound rises.
func TestWhichRound(t *testing.T) {
	for _, row := range []struct {
		what string
		k    kernel
		want [][]int
	}{
		{"example 1", kernel{"set", api.Rank{N: 4, A: 1}, between(0, 1, 1, 2, 2, 3)}, [][]int{{0}, {1}, {2}, {3}}},
		{"example 2", kernel{"set", api.Rank{N: 4, A: 1, C: 2}, between(0, 1, 1, 2, 2, 3)}, [][]int{{0, 2}, {1, 3}}},
		{"example 3", kernel{"colour", api.Rank{N: 4, A: 1}, between(0, 1, 1, 2, 2, 3)}, [][]int{{0}, {1}, {2}, {3}}},
		{"example 4", kernel{"core", api.Rank{N: 4}, triangle}, [][]int{nil, {3}, nil, {0, 1, 2}}},
		{"a way", kernel{"core", api.Rank{N: 5}, chain(5)}, [][]int{nil, {0, 4}, {1, 3}, {2}}},
	} {
		if got := row.k.decisions(t); !slices.EqualFunc(got, row.want, slices.Equal[[]int]) {
			t.Errorf("P14.3: %s: %v, want %v", row.what, got, row.want)
		}
	}
}

// P14.3: what a run counts: each vertex tells its priority till it is decided, and its news once.
func TestStatistics(t *testing.T) {
	for _, row := range []struct {
		what string
		k    kernel
		want api.Stats
	}{
		// Round 1: all six; 2: 0's news, 1's two, 2's two, 3's; 3: 2's two and 3's, 1 is silent; 4: 2's news twice, 3's.
		{"example 1", kernel{"set", api.Rank{N: 4, A: 1}, between(0, 1, 1, 2, 2, 3)}, api.Stats{Rounds: 4, Edges: 24, Updates: 18, Changed: 4}},
		// Round 4: 2's news twice, and 3's priority.
		{"example 3", kernel{"colour", api.Rank{N: 4, A: 1}, between(0, 1, 1, 2, 2, 3)}, api.Stats{Rounds: 4, Edges: 24, Updates: 20, Changed: 4}},
		// 3 tells its one edge; the others are taken in the last round, and tell nothing.
		{"example 4", kernel{"core", api.Rank{N: 4}, triangle}, api.Stats{Rounds: 4, Edges: 32, Updates: 1, Changed: 8}},
		{"a loop", kernel{"core", api.Rank{N: 1}, between(0, 0)}, api.Stats{Rounds: 2, Edges: 4, Updates: 2, Changed: 2}},
	} {
		if _, stats, _, e := row.k.run(t); stats != row.want || e != api.OK {
			t.Errorf("%s: %v, %d, want %v", row.what, stats, e, row.want)
		}
	}
}

// steep is a way whose edges are more and more: each vertex but the last two has a core number of its own.
func steep(n uint32) (l []api.Edge) {
	for v := uint32(1); v < n; v++ {
		l = append(l, slices.Repeat([]api.Edge{{Src: v, Dst: v - 1}}, int(v))...)
	}
	return l
}

// P14.5, P14.6, P14.7: graphs that need many rounds, and the cap that just suffices.
func TestManyRounds(t *testing.T) {
	for _, n := range []uint32{2, 3, 4, 17, 64, 100} {
		for _, k := range []kernel{{"set", api.Rank{N: n, A: 1}, chain(n)}, {"colour", api.Rank{N: n, A: 1}, chain(n)}, {"set", api.Rank{N: n, A: n - 1, C: n - 1}, chain(n)}, {"core", api.Rank{N: n}, steep(n)}} {
			want := int(n)
			if k.name == "core" {
				want = 2*int(n) - 2
			}
			s, stats, agg, e := k.run(t)
			k.right(t, s, e)
			if stats.Rounds != want || agg[0] != 0 {
				t.Errorf("P14.5 to P14.7: %s over %d vertices: %d rounds, %v", k.name, n, stats.Rounds, agg)
			}
			if _, _, e := wheel.Memory(n, true, k.edges, k.peel(t), want, 3); e != api.OK {
				t.Errorf("%s over %d vertices: a cap that suffices: %d", k.name, n, e)
			}
			if _, _, e := wheel.Memory(n, true, k.edges, k.peel(t), max(want-1, 1), 3); want > 1 && e != api.ErrCap {
				t.Errorf("%s over %d vertices: a cap that does not suffice: %d", k.name, n, e)
			}
		}
	}
}

// P14.6: 64 vertices that are all neighbours have 64 colours; 65 are one too many, wherever they lie.
func TestColoursRunOut(t *testing.T) {
	rnd := rand.New(rand.NewPCG(6, 146))
	for _, row := range []struct {
		what string
		n    uint32
		l    []api.Edge
		want api.Errno
	}{
		{"63", 63, all(0, 63), api.OK},
		{"64", 64, all(0, 64), api.OK},
		{"65", 65, all(0, 65), api.ErrColours},
		{"64 with loops, each edge twice", 64, append(append(all(0, 64), all(0, 64)...), between(0, 0, 5, 5, 63, 63)...), api.OK},
		{"64 among others", 80, append(all(9, 64), between(0, 9, 0, 10, 73, 0, 74, 75)...), api.OK},
		{"65 among others", 80, append(all(9, 65), between(0, 9, 0, 10, 74, 0, 75, 76)...), api.ErrColours},
		{"64 twice", 128, append(all(0, 64), all(64, 64)...), api.OK},
		{"70 but one edge in ten", 70, slices.DeleteFunc(all(0, 70), func(e api.Edge) bool { return (e.Src+e.Dst)%10 == 3 }), api.OK},
	} {
		for range 6 {
			k := kernel{"colour", anyOrder(rnd, row.n), shuffled(rnd, row.l)}
			s, stats, _, e := k.run(t)
			k.right(t, s, e)
			if e != row.want || e == api.OK && row.n == 64 && stats.Rounds != 64 {
				t.Errorf("P14.6: %s by %v: %d in %d rounds, want %d", row.what, k.order, e, stats.Rounds, row.want)
			}
			if _, _, e := wheel.Memory(row.n, true, k.edges, k.peel(t), k.most(), 7); e != row.want {
				t.Errorf("P14.6: %s by workers: %d", row.what, e)
			}
		}
	}
	star := kernel{name: "colour", order: api.Rank{N: 300, A: 299, C: 299}}
	for v := uint32(1); v < 300; v++ {
		star.edges = append(star.edges, api.Edge{Src: v % 2 * v, Dst: (v + 1) % 2 * v})
	}
	s, stats, _, e := star.run(t)
	star.right(t, s, e)
	if s[0][0] != 1 || s[299][0] != 0 || stats.Rounds != 2 {
		t.Errorf("P14.6: many neighbours that have one colour: %v, %v", s[0], stats)
	}
}

// P14.5, P14.6, P14.7: graphs at random against second readings that do not go by rounds.
func TestAtRandom(t *testing.T) {
	seen := map[string]int{}
	for seed := range uint64(3000) {
		rnd := rand.New(rand.NewPCG(seed, 145))
		k := anyKernel(rnd, names[seed%3], 40)
		s, stats, _, e := k.run(t)
		k.right(t, s, e)
		if stats.Rounds > 3 {
			seen[k.name]++
		}
	}
	for _, name := range names {
		if seen[name] < 50 {
			t.Errorf("too little was tried: %v", seen)
		}
	}
}

// P14.7: small graphs against all sets of vertices.
func TestCoresBySets(t *testing.T) {
	for seed := range uint64(600) {
		rnd := rand.New(rand.NewPCG(seed, 147))
		k := anyKernel(rnd, "core", 7)
		s, _, _, e := k.run(t)
		if got, want := words(s, 0), k.coresBySets(); e != api.OK || !slices.Equal(got, want) || !slices.Equal(got, k.coreNumbers()) {
			t.Fatalf("P14.7: %v: %d, %d, want %d", k.edges, got, e, want)
		}
	}
}

// P14.3: over graphs that have more vertices than the order a run of Set or Colour ends with ErrArg; over fewer it goes on.
func TestOverAnotherGraph(t *testing.T) {
	for _, name := range names[:2] {
		k := kernel{name, api.Rank{N: 4, A: 3, C: 1}, chain(5)}
		if _, _, e := wheel.Memory(5, true, k.edges, k.peel(t), 9, 2); e != api.ErrArg {
			t.Errorf("P14.3: %s: %d", name, e)
		}
		if s, _, e := wheel.Memory(3, true, chain(3), k.peel(t), 9, 2); e != api.OK || len(s) != 3 {
			t.Errorf("P14.3: %s: %d", name, e)
		}
	}
}
