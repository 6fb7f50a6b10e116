package flows_test

import (
	"math"
	"math/rand/v2"
	"slices"
	"testing"

	"sluice/api"
	"sluice/flows"
	"sluice/wheel"
)

// inMemory makes a program's rounds, within so many, and tells what came of them.
func inMemory(t *testing.T, p api.Program, n uint32, edges []api.Edge, most int) ([]api.State, api.Stats) {
	t.Helper()
	s, stats, e := wheel.Memory(n, true, edges, p, most, 1)
	if e != api.OK {
		t.Fatalf("%d vertices, %v: %d", n, edges, e)
	}
	return s, stats
}

// P13.4, P13.5: example 3, and graphs with something special.
func TestWCC(t *testing.T) {
	for _, row := range []struct {
		what   string
		n      uint32
		edges  []api.Edge
		want   []uint64
		rounds int
	}{
		{"example 3", 4, []api.Edge{{Src: 3, Dst: 1}, {Src: 2, Dst: 2}}, []uint64{0, 1, 2, 1}, 2},
		{"one vertex", 1, nil, []uint64{0}, 1},
		{"one vertex with a loop", 1, []api.Edge{{}}, []uint64{0}, 1},
		{"no edges", 3, nil, []uint64{0, 1, 2}, 1},
		{"forwards", 3, []api.Edge{{Src: 0, Dst: 1}, {Src: 1, Dst: 2}}, []uint64{0, 0, 0}, 3},
		{"backwards", 3, []api.Edge{{Src: 1, Dst: 0}, {Src: 2, Dst: 1}}, []uint64{0, 0, 0}, 3},
		{"to and fro", 5, []api.Edge{{Src: 0, Dst: 4}, {Src: 3, Dst: 4}, {Src: 3, Dst: 1}}, []uint64{0, 0, 2, 0, 0}, 4},
		{"the least of a cycle, and edges that are the same", 4, []api.Edge{{Src: 2, Dst: 3}, {Src: 3, Dst: 1}, {Src: 1, Dst: 2}, {Src: 1, Dst: 2}}, []uint64{0, 1, 1, 1}, 2},
		{"weights are not looked at", 2, []api.Edge{{Src: 1, Dst: 0, W: math.MaxUint32}}, []uint64{0, 0}, 2},
	} {
		k := kernel{name: "wcc", n: row.n, edges: row.edges}
		s, stats, agg := k.run(t)
		components := uint64(0)
		for v := range s {
			if label, ok := flows.Label(s[v]); !ok || uint64(label) != row.want[v] {
				t.Errorf("P13.5: %s: vertex %d: %d %v", row.what, v, label, ok)
			}
			if row.want[v] == uint64(v) {
				components++
			}
		}
		if got := words(s, 0); !slices.Equal(got, row.want) || stats.Rounds != row.rounds || agg != (api.State{components}) {
			t.Errorf("P13.4: %s: %d %v %d rounds, want %d %d %d", row.what, got, agg, stats.Rounds, row.want, components, row.rounds)
		}
	}
}

// P13.4: a way through all vertices needs n rounds, whichever way its edges go; behind each of them the vertices that have heard of none lesser are counted.
func TestLabelsNeedAllRounds(t *testing.T) {
	for _, n := range []uint32{1, 2, 3, 17, 150} {
		for _, turned := range []func(i int) bool{func(int) bool { return false }, func(int) bool { return true }, func(i int) bool { return i%2 == 0 }} {
			edges := chain(n)
			for i, e := range edges {
				if turned(i) {
					edges[i].Src, edges[i].Dst = e.Dst, e.Src
				}
			}
			k := kernel{name: "wcc", n: n, edges: edges}
			s, stats, agg := k.run(t)
			if stats.Rounds != int(n) || agg != (api.State{1}) || k.rightLabels(t, s) != 1 {
				t.Errorf("P13.4: %d vertices: %d rounds, %v", n, stats.Rounds, agg)
			}
		}
	}
	// The lesser half of a way lies at its far end: so labels change more than once, and the count falls step by step.
	edges := []api.Edge{{Src: 3, Dst: 4}, {Src: 4, Dst: 5}, {Src: 5, Dst: 2}, {Src: 2, Dst: 1}, {Src: 1, Dst: 0}}
	w := &watched{Program: kernel{name: "wcc", n: 6}.flow(t), states: make([]api.State, 6)}
	var counts []uint64
	w.look = func(_ int, _ []api.State, agg api.State) { counts = append(counts, agg[0]) }
	inMemory(t, w, 6, edges, 6)
	if !slices.Equal(counts, []uint64{2, 2, 1, 1, 1, 1}) {
		t.Errorf("P13.4: behind each round %d are their own label", counts)
	}
}

// P13.4: graphs at random against sets that are joined.
func TestLabelsAtRandom(t *testing.T) {
	several := 0
	for seed := range uint64(1500) {
		k := anyKernel(rand.New(rand.NewPCG(seed, 134)), "wcc", 40)
		s, _, agg := k.run(t)
		components := k.rightLabels(t, s)
		if agg[0] != components {
			t.Fatalf("P13.4: %v: %d components, want %d", k.edges, agg[0], components)
		}
		if components > 1 && components < uint64(k.n) {
			several++
		}
	}
	if several < 300 {
		t.Errorf("too little was tried: %d", several)
	}
}

// P13.5: of whatever state.
func TestLabel(t *testing.T) {
	for _, x := range []uint64{0, 1, api.MaxVertices, math.MaxUint32, math.MaxUint32 + 1, api.Endless, 1 << 63, none} {
		label, ok := flows.Label(api.State{x, none, none})
		if want := x <= math.MaxUint32; ok != want || want && uint64(label) != x || !want && label != 0 {
			t.Errorf("P13.5: %d: %d %v", x, label, ok)
		}
	}
}
