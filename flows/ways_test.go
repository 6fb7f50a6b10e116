package flows_test

import (
	"math"
	"math/rand/v2"
	"slices"
	"testing"

	"sluice/api"
	"sluice/flows"
)

// sssp tells SSSP over counted edges from vertex 0.
func sssp(n uint32, edges ...api.Edge) kernel {
	return kernel{name: "sssp", n: n, edges: edges, sources: []uint32{0}, kind: api.ECounted}
}

// detour is the graph of example 4.
var detour = []api.Edge{{Src: 0, Dst: 1, W: 5}, {Src: 0, Dst: 2, W: 2}, {Src: 2, Dst: 1, W: less(1)}}

// P13.6, P13.7: examples 4 and 5, and graphs with something special, none of them with a cycle below zero that can be reached.
func TestDistances(t *testing.T) {
	const end = api.Endless
	const lowest, highest = 1 << 31, 1<<31 - 1 // the bits of the bounds of an int32
	for _, row := range []struct {
		what string
		k    kernel
		want []int64
		agg  uint64
	}{
		{"example 4", sssp(3, detour...), []int64{0, 1, 2}, 3},
		{"example 5", sssp(2, api.Edge{Src: 1, Dst: 1, W: less(1)}), []int64{0, end}, 1},
		{"example 6", sssp(1), []int64{0}, 1},
		{"a cycle below zero that leads to the source", sssp(3, api.Edge{Src: 1, Dst: 2, W: less(9)}, api.Edge{Src: 2, Dst: 1, W: 1}, api.Edge{Src: 2, Dst: 0, W: 1}), []int64{0, end, end}, 1},
		{"loops of 0 and above", sssp(2, api.Edge{}, api.Edge{W: 3}, api.Edge{Dst: 1, W: 4}, api.Edge{Src: 1, Dst: 1}), []int64{0, 4}, 2},
		{"of edges that are the same the lightest", sssp(2, api.Edge{Dst: 1, W: 4}, api.Edge{Dst: 1, W: less(4)}, api.Edge{Dst: 1, W: 4}), []int64{0, -4}, 2},
		{"a cycle that sums up to 0", sssp(4, api.Edge{Dst: 1, W: 7}, api.Edge{Src: 1, Dst: 2, W: 3}, api.Edge{Src: 2, Dst: 3, W: less(5)}, api.Edge{Src: 3, Dst: 1, W: 2}), []int64{0, 7, 10, 5}, 4},
		{"a cycle through the source that sums up to 0", sssp(3, api.Edge{Dst: 1, W: 6}, api.Edge{Src: 1, Dst: 2, W: less(8)}, api.Edge{Src: 2, Dst: 0, W: 2}), []int64{0, 6, -2}, 3},
		{"a cycle of zeros", sssp(3, api.Edge{Src: 1, Dst: 2}, api.Edge{Src: 2, Dst: 1}, api.Edge{Dst: 2}), []int64{0, 0, 0}, 3},
		{"the least weight there is", sssp(3, api.Edge{Dst: 1, W: lowest}, api.Edge{Src: 1, Dst: 2, W: lowest}), []int64{0, math.MinInt32, 2 * math.MinInt32}, 3},
		{"the greatest", sssp(3, api.Edge{Dst: 1, W: highest}, api.Edge{Src: 1, Dst: 2, W: highest}), []int64{0, math.MaxInt32, 2 * math.MaxInt32}, 3},
		{"both", sssp(3, api.Edge{Dst: 1, W: highest}, api.Edge{Src: 1, Dst: 2, W: lowest}, api.Edge{Src: 2, Dst: 0, W: 1}), []int64{0, math.MaxInt32, -1}, 3},
		{"plain edges weigh 1", kernel{name: "sssp", n: 4, edges: []api.Edge{{Src: 3, Dst: 1}, {Src: 1, Dst: 0}, {Src: 3, Dst: 0, W: less(7)}}, sources: []uint32{3}, kind: api.EPlain}, []int64{1, 1, end, 0}, 3},
	} {
		s, stats, agg := row.k.run(t)
		if row.k.rightWays(t, s) || agg != (api.State{row.agg}) || stats.Rounds > int(row.k.n) {
			t.Errorf("P13.6: %s: %v, %d rounds", row.what, agg, stats.Rounds)
		}
		for v, want := range row.want {
			if d, ok := flows.Distance(s[v]); ok != (want != end) || ok && d != want || !ok && d != 0 {
				t.Errorf("P13.7: %s: vertex %d: %d %v, want %d", row.what, v, d, ok, want)
			}
			if int64(s[v][0]) != want {
				t.Errorf("P13.6: %s: vertex %d: %d, want %d", row.what, v, int64(s[v][0]), want)
			}
		}
	}
}

// P13.6, P13.7: cycles below zero that can be reached: every state tells so, of those that are not reached too, behind n + 1 rounds at the latest.
func TestCyclesBelowZero(t *testing.T) {
	for _, row := range []struct {
		what string
		k    kernel
	}{
		{"example 4", sssp(3, append(slices.Clone(detour), api.Edge{Src: 1, Dst: 0, W: less(4)})...)},
		{"a loop at the only vertex", sssp(1, api.Edge{W: less(1)})},
		{"a loop of the least weight", sssp(2, api.Edge{W: 1 << 31})},
		{"at the end of a long way", sssp(9, append(chain(9), api.Edge{Src: 8, Dst: 8, W: less(1)})...)},
		{"by one, among the greatest weights", sssp(4, api.Edge{Dst: 1, W: 1<<31 - 1}, api.Edge{Src: 1, Dst: 2, W: 1 << 31}, api.Edge{Src: 2, Dst: 1, W: 1<<31 - 1})},
		{"beside vertices that are not reached", sssp(5, api.Edge{Dst: 2}, api.Edge{Src: 2, Dst: 0, W: less(1)}, api.Edge{Src: 4, Dst: 3, W: 5})},
	} {
		s, stats, agg := row.k.run(t)
		if !row.k.rightWays(t, s) || agg[1] != 1 || stats.Rounds > int(row.k.n)+1 {
			t.Errorf("P13.6: %s: %v, %d rounds", row.what, agg, stats.Rounds)
		}
		for v := range s {
			if d, ok := flows.Distance(s[v]); d != 0 || ok || !flows.Negative(s[v]) {
				t.Errorf("P13.7: %s: vertex %d: %d %v", row.what, v, d, ok)
			}
		}
	}
}

// P13.6: ways through all vertices need n rounds, cycles below zero one more; none of the rounds ahead of the last tells of a cycle.
func TestWaysNeedAllRounds(t *testing.T) {
	for _, n := range []uint32{1, 2, 3, 17, 150} {
		for _, weight := range []uint32{less(1), 0, 1, 1 << 31, 1<<31 - 1} {
			edges := chain(n)
			for i := range edges {
				edges[i].W = weight
			}
			k := sssp(n, edges...)
			s, stats, agg := k.run(t)
			if k.rightWays(t, s) || stats.Rounds != int(n) || agg != (api.State{uint64(n)}) {
				t.Errorf("P13.6: %d vertices: %d rounds, %v", n, stats.Rounds, agg)
			}
			k.edges = append(edges, api.Edge{Src: n - 1, Dst: n - 1, W: less(1)})
			w := &watched{Program: k.flow(t), states: make([]api.State, n)}
			w.look = func(round int, _ []api.State, agg api.State) {
				want := api.State{min(uint64(round)+1, uint64(n))}
				if round == int(n)+1 {
					want[1] = 1
				}
				if agg != want {
					t.Fatalf("P13.6: %d vertices: the aggregate behind round %d is %v, want %v", n, round, agg, want)
				}
			}
			s, stats = inMemory(t, w, n, k.edges, int(n)+1)
			if !k.rightWays(t, s) || stats.Rounds != int(n)+1 {
				t.Errorf("P13.6: %d vertices and a cycle: %d rounds", n, stats.Rounds)
			}
		}
	}
}

// P13.6: graphs at random against least sums over all ways.
func TestWaysAtRandom(t *testing.T) {
	met := map[string]int{}
	for seed := range uint64(4000) {
		k := anyKernel(rand.New(rand.NewPCG(seed, 136)), "sssp", 20)
		s, stats, agg := k.run(t)
		switch negative := k.rightWays(t, s); {
		case negative:
			met["negative"]++
		case stats.Rounds > int(k.n):
			t.Fatalf("P13.6: %v from %v: %d rounds", k.edges, k.sources, stats.Rounds)
		case k.kind == api.EPlain:
			met["plain"]++
		case slices.ContainsFunc(k.edges, func(e api.Edge) bool { return counted(e) < 0 && s[e.Src][0] != api.Endless }):
			met["below zero"]++
		}
		if agg[1] != s[0][1] {
			t.Fatalf("P13.6: %v from %v: %v", k.edges, k.sources, agg)
		}
	}
	if met["negative"] < 300 || met["plain"] < 300 || met["below zero"] < 300 {
		t.Errorf("too little was tried: %v", met)
	}
}

// P13.8: SSSP's Scatter at sums that are just an int64 and just none, whatever else stands in the state.
func TestSumsBeyond(t *testing.T) {
	const greatest, lowest = math.MaxInt64, math.MinInt64
	for _, row := range []struct {
		kind     api.EdgeKind
		distance int64
		w        uint32
		want     int64
		err      api.Errno
	}{
		{api.ECounted, greatest - 1, 1, greatest, api.OK},
		{api.ECounted, greatest - 1, 2, 0, api.ErrBeyond},
		{api.ECounted, greatest - math.MaxInt32, math.MaxInt32, greatest, api.OK},
		{api.ECounted, greatest - math.MaxInt32 + 1, math.MaxInt32, 0, api.ErrBeyond},
		{api.ECounted, greatest - 1, less(1), greatest - 2, api.OK},
		{api.ECounted, lowest, 0, lowest, api.OK},
		{api.ECounted, lowest, 5, lowest + 5, api.OK},
		{api.ECounted, lowest, less(1), 0, api.ErrBeyond},
		{api.ECounted, lowest + 1, less(1), lowest, api.OK},
		{api.ECounted, lowest - math.MinInt32, 1 << 31, lowest, api.OK},
		{api.ECounted, lowest - math.MinInt32 - 1, 1 << 31, 0, api.ErrBeyond},
		{api.ECounted, -1, math.MaxInt32, math.MaxInt32 - 1, api.OK},
		{api.EPlain, greatest - 1, less(7), greatest, api.OK},
		{api.EPlain, greatest - 2, less(7), greatest - 1, api.OK},
		{api.EPlain, lowest, less(7), lowest + 1, api.OK},
	} {
		p, e := flows.SSSP(2, 0, row.kind)
		if e != api.OK {
			t.Fatal(e)
		}
		edge := api.Edge{Src: 0, Dst: 1, W: row.w}
		a, b, send, err := p.Scatter(api.Ctl{}, api.State{uint64(row.distance)}, edge, false)
		if err != row.err || int64(a) != row.want || b != 0 || send != (err == api.OK) {
			t.Errorf("P13.8: %d and %d: %d %d %v %d", row.distance, row.w, int64(a), b, send, err)
		}
		if _, _, _, err := p.Scatter(api.Ctl{7}, api.State{uint64(row.distance), 1, 9}, edge, false); err != row.err {
			t.Errorf("P13.8: %d and %d, not sent now: %d", row.distance, row.w, err)
		}
	}
	for _, kind := range []api.EdgeKind{api.EPlain, api.ECounted} {
		p, _ := flows.SSSP(2, 0, kind)
		for _, w := range []uint32{0, 1, less(1), 1 << 31, math.MaxInt32} {
			if a, b, send, err := p.Scatter(api.Ctl{}, api.State{api.Endless}, api.Edge{W: w}, false); a != 0 || b != 0 || send || err != api.OK {
				t.Errorf("P13.8: not reached, %d: %d %d %v %d", w, a, b, send, err)
			}
		}
	}
}

// P13.7: of whatever state.
func TestDistanceAndNegative(t *testing.T) {
	for _, d := range []uint64{0, 1, math.MaxInt32, api.Endless - 1, api.Endless, 1 << 63, none - 1, none} {
		for _, verdict := range []uint64{0, 1, 2, math.MaxUint32 + 1, math.MaxUint32 + 2, 1 << 63, none} {
			s := api.State{d, verdict, 1, 2, 3}
			got, ok := flows.Distance(s)
			if want := verdict == 0 && d != api.Endless; ok != want || want && got != int64(d) || !want && got != 0 {
				t.Errorf("P13.7: %d %d: %d %v", d, verdict, got, ok)
			}
			if flows.Negative(s) != (verdict == 1) {
				t.Errorf("P13.7: %d %d: %v", d, verdict, flows.Negative(s))
			}
		}
	}
}
