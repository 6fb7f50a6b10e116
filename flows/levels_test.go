package flows_test

import (
	"math"
	"math/rand/v2"
	"slices"
	"testing"

	"sluice/api"
	"sluice/flows"
)

const none = api.Unreached

// few is the graph of examples 1 and 2.
var few = []api.Edge{{Src: 0, Dst: 1}, {Src: 0, Dst: 2}, {Src: 2, Dst: 1}, {Src: 1, Dst: 3}}

// chain tells a way through n vertices, rising.
func chain(n uint32) (edges []api.Edge) {
	for v := uint32(1); v < n; v++ {
		edges = append(edges, api.Edge{Src: v - 1, Dst: v})
	}
	return edges
}

// P13.1, P13.2: examples 1 and 6, and graphs with something special.
func TestBFS(t *testing.T) {
	for _, row := range []struct {
		what   string
		n      uint32
		source uint32
		edges  []api.Edge
		want   []uint64 // level and parent of each vertex
		agg    api.State
		stats  api.Stats
	}{
		{"example 1", 5, 0, few, []uint64{0, 0, 1, 0, 1, 0, 2, 1, none, none}, api.State{4, 2}, api.Stats{Rounds: 3, Edges: 12, Updates: 4, Changed: 3}},
		{"example 6", 1, 0, nil, []uint64{0, 0}, api.State{1, 0}, api.Stats{Rounds: 1}},
		{"a loop at the source", 1, 0, []api.Edge{{}}, []uint64{0, 0}, api.State{1, 0}, api.Stats{Rounds: 1, Edges: 1, Updates: 1}},
		{"no edges", 3, 1, nil, []uint64{none, none, 0, 1, none, none}, api.State{1, 0}, api.Stats{Rounds: 1}},
		{"edges that only lead to the source", 3, 2, []api.Edge{{Src: 0, Dst: 2}, {Src: 1, Dst: 2}}, []uint64{none, none, none, none, 0, 2}, api.State{1, 0}, api.Stats{Rounds: 1, Edges: 2}},
		{"two parents: the least", 4, 3, []api.Edge{{Src: 3, Dst: 2}, {Src: 3, Dst: 1}, {Src: 2, Dst: 0}, {Src: 1, Dst: 0}}, []uint64{2, 1, 1, 3, 1, 3, 0, 3}, api.State{4, 2}, api.Stats{Rounds: 3, Edges: 12, Updates: 4, Changed: 3}},
		{"a lesser vertex of the same level, and one behind: no parents", 4, 3, []api.Edge{{Src: 3, Dst: 2}, {Src: 3, Dst: 1}, {Src: 1, Dst: 2}, {Src: 2, Dst: 0}, {Src: 0, Dst: 1}, {Src: 0, Dst: 2}, {Src: 0, Dst: 3}}, []uint64{2, 2, 1, 3, 1, 3, 0, 3}, api.State{4, 2}, api.Stats{Rounds: 3, Edges: 21, Updates: 7, Changed: 3}},
		{"loops, and edges that are the same", 2, 0, []api.Edge{{Dst: 1}, {Dst: 1}, {Src: 1, Dst: 1}, {}, {Src: 1}}, []uint64{0, 0, 1, 0}, api.State{2, 1}, api.Stats{Rounds: 2, Edges: 10, Updates: 5, Changed: 1}},
		{"weights are not looked at", 2, 0, []api.Edge{{Dst: 1, W: math.MaxUint32}, {Src: 1, W: 1 << 31}}, []uint64{0, 0, 1, 0}, api.State{2, 1}, api.Stats{Rounds: 2, Edges: 4, Updates: 2, Changed: 1}},
	} {
		k := kernel{name: "bfs", n: row.n, edges: row.edges, sources: []uint32{row.source}}
		s, stats, agg := k.run(t)
		if got := words(s, 0, 1); !slices.Equal(got, row.want) || agg != row.agg || stats != row.stats {
			t.Errorf("P13.1: %s: %d %v %v, want %d %v %v", row.what, got, agg, stats, row.want, row.agg, row.stats)
		}
		for v := range s {
			level, from, ok := flows.Hops(s[v])
			if want := row.want[2*v]; want == none && (ok || level != 0 || from != 0) || want != none && (!ok || level != want || uint64(from) != row.want[2*v+1]) {
				t.Errorf("P13.2: %s: vertex %d: %d %d %v", row.what, v, level, from, ok)
			}
		}
	}
}

// P13.3: example 2, and sources that are one, several, the same twice, all.
func TestReach(t *testing.T) {
	for _, row := range []struct {
		what    string
		n       uint32
		sources []uint32
		edges   []api.Edge
		want    []uint64 // level and source of each vertex
		agg     api.State
		rounds  int
	}{
		{"example 2", 5, []uint32{2, 0}, few, []uint64{0, 0, 1, 0, 0, 2, 2, 0, none, none}, api.State{4, 2}, 3},
		{"the same source twice", 5, []uint32{2, 2}, few, []uint64{none, none, 1, 2, 0, 2, 2, 2, none, none}, api.State{3, 2}, 3},
		{"all of them", 3, []uint32{2, 1, 0}, chain(3), []uint64{0, 0, 0, 1, 0, 2}, api.State{3, 0}, 1},
		{"one that is nearer goes ahead of a lesser one", 4, []uint32{0, 3}, []api.Edge{{Src: 0, Dst: 1}, {Src: 1, Dst: 2}, {Src: 3, Dst: 2}}, []uint64{0, 0, 1, 0, 1, 3, 0, 3}, api.State{4, 1}, 2},
		{"the least source by a greater parent", 5, []uint32{1, 2}, []api.Edge{{Src: 1, Dst: 4}, {Src: 2, Dst: 3}, {Src: 3, Dst: 0}, {Src: 4, Dst: 0}}, []uint64{2, 1, 0, 1, 0, 2, 1, 2, 1, 1}, api.State{5, 2}, 3},
		{"one vertex", 1, []uint32{0}, nil, []uint64{0, 0}, api.State{1, 0}, 1},
	} {
		k := kernel{name: "reach", n: row.n, edges: row.edges, sources: row.sources}
		s, stats, agg := k.run(t)
		if got := words(s, 0, 1); !slices.Equal(got, row.want) || agg != row.agg || stats.Rounds != row.rounds {
			t.Errorf("P13.3: %s: %d %v %d rounds, want %d %v %d", row.what, got, agg, stats.Rounds, row.want, row.agg, row.rounds)
		}
	}
}

// P13.1, P13.3: a way through all vertices needs n rounds, and each more finds one vertex.
func TestLevelsNeedAllRounds(t *testing.T) {
	for _, n := range []uint32{1, 2, 3, 17, 150} {
		for _, name := range []string{"bfs", "reach"} {
			k := kernel{name: name, n: n, edges: chain(n), sources: []uint32{0}}
			w := &watched{Program: k.flow(t), states: make([]api.State, n)}
			w.look = func(round int, _ []api.State, agg api.State) {
				if level := min(uint64(round), uint64(n)-1); agg != (api.State{level + 1, level}) {
					t.Fatalf("%s: %d vertices: the aggregate behind round %d is %v", name, n, round, agg)
				}
			}
			s, stats := inMemory(t, w, n, k.edges, int(n))
			k.rightLevels(t, s)
			if stats.Rounds != int(n) {
				t.Errorf("%s: %d vertices: %d rounds", name, n, stats.Rounds)
			}
		}
	}
}

// P13.1, P13.3: graphs at random against the chapter's words; behind round r just those of levels up to r have one.
func TestLevelsAtRandom(t *testing.T) {
	found := map[string]int{}
	for seed := range uint64(1500) {
		rnd := rand.New(rand.NewPCG(seed, 131))
		for _, name := range []string{"bfs", "reach"} {
			k := anyKernel(rnd, name, 24)
			s, stats, agg := k.run(t)
			k.rightLevels(t, s)
			if agg[1] > 2 && agg[0] < uint64(k.n) {
				found[name]++
			}
			if stats.Rounds != int(agg[1])+1 {
				t.Fatalf("%s over %v from %v: %d rounds to level %d", name, k.edges, k.sources, stats.Rounds, agg[1])
			}
			w := &watched{Program: k.flow(t), states: make([]api.State, k.n)}
			w.look = func(round int, states []api.State, _ api.State) {
				for v := range states {
					if has := states[v][0] != none; has != (s[v][0] <= uint64(round)) || has && states[v][0] != s[v][0] {
						t.Fatalf("%s over %v from %v: vertex %d behind round %d: %v", name, k.edges, k.sources, v, round, states[v])
					}
				}
			}
			inMemory(t, w, k.n, k.edges, int(k.n))
		}
	}
	if found["bfs"] < 100 || found["reach"] < 100 {
		t.Errorf("too little was tried: %v", found)
	}
}

// P13.2: of whatever state.
func TestHops(t *testing.T) {
	for _, level := range []uint64{0, 1, math.MaxUint32, math.MaxUint32 + 1, api.Endless, none - 1, none} {
		for _, from := range []uint64{0, 1, api.MaxVertices, math.MaxUint32, math.MaxUint32 + 1, 1 << 63, none - 1, none} {
			s := api.State{level, from, 3, 4, 5, 6, 7, none}
			l, f, ok := flows.Hops(s)
			want := level != none && from <= math.MaxUint32
			if ok != want || want && (l != level || uint64(f) != from) || !want && (l != 0 || f != 0) {
				t.Errorf("P13.2: %d %d: %d %d %v", level, from, l, f, ok)
			}
		}
	}
}
