package flows_test

import (
	"math"
	"math/rand/v2"
	"slices"
	"testing"

	"sluice/api"
	"sluice/flows"
	"sluice/wheel"
)

// kernel is one of the four programs over a graph, with what the chapter asks of it.
type kernel struct {
	name    string
	n       uint32
	edges   []api.Edge
	sources []uint32
	kind    api.EdgeKind // of SSSP
}

// names of the four programs.
var names = []string{"bfs", "reach", "wcc", "sssp"}

// more tells how many rounds above n the kernel may have.
func (k kernel) more() int {
	if k.name == "sssp" {
		return 1
	}
	return 0
}

// flow makes the program.
func (k kernel) flow(t *testing.T) *flows.Flow {
	t.Helper()
	var p *flows.Flow
	var e api.Errno
	switch k.name {
	case "bfs":
		p, e = flows.BFS(k.n, k.sources[0])
	case "reach":
		p, e = flows.Reach(k.n, k.sources...)
	case "wcc":
		p, e = flows.WCC(k.n)
	case "sssp":
		p, e = flows.SSSP(k.n, k.sources[0], k.kind)
	}
	if p == nil || e != api.OK {
		t.Fatalf("%s over %d vertices from %v: %v, %d", k.name, k.n, k.sources, p, e)
	}
	return p
}

// watched is a program whose states are written down, and looked at together with the aggregate behind each round.
type watched struct {
	api.Program
	states []api.State
	agg    api.State
	look   func(round int, states []api.State, agg api.State)
}

func (w *watched) Apply(c api.Ctl, agg api.State, v uint32, s api.State) (api.State, bool, api.Errno) {
	next, changed, e := w.Program.Apply(c, agg, v, s)
	w.states[v] = next
	return next, changed, e
}

func (w *watched) Turn(c api.Ctl, agg api.State, changed uint64, round int) (api.Ctl, bool, api.Errno) {
	w.agg = agg
	if w.look != nil {
		w.look(round, w.states, agg)
	}
	return w.Program.Turn(c, agg, changed, round)
}

// run makes the kernel's rounds in memory, within as many as the chapter allows; the aggregate is held against the states behind each of them.
func (k kernel) run(t *testing.T) ([]api.State, api.Stats, api.State) {
	t.Helper()
	w := &watched{Program: k.flow(t), states: make([]api.State, k.n)}
	w.look = func(round int, states []api.State, agg api.State) {
		t.Helper()
		if want := k.aggregate(states); agg != want {
			t.Fatalf("%s over %v from %v: the aggregate behind round %d is %v, want %v", k.name, k.edges, k.sources, round, agg, want)
		}
	}
	s, stats, e := wheel.Memory(k.n, true, k.edges, w, int(k.n)+k.more(), 1)
	if e != api.OK || len(s) != int(k.n) {
		t.Fatalf("%s over %d vertices, %v from %v: %d", k.name, k.n, k.edges, k.sources, e)
	}
	return s, stats, w.agg
}

// aggregate tells what the chapter says of the aggregate while these are the states.
func (k kernel) aggregate(states []api.State) (agg api.State) {
	for v, s := range states {
		switch {
		case k.name == "wcc" && s[0] == uint64(v):
			agg[0]++
		case k.name == "sssp":
			if s[0] != api.Endless {
				agg[0]++
			}
			if s[1] == 1 {
				agg[1] = 1
			}
		case k.name == "bfs" || k.name == "reach":
			if s[0] != api.Unreached {
				agg[0]++
				agg[1] = max(agg[1], s[0])
			}
		}
	}
	return agg
}

// far is a sum that is none; low is one that stands for all that are less, so that cycles below zero do not carry sums out of int64.
const (
	far = math.MaxInt64
	low = -1 << 60
)

// between tells of each two vertices the least sum of weights of a way from the one to the other: first without vertices between, then with the first one, the first two and so on allowed there. A vertex on a cycle below zero is less than 0 from itself.
func between(n uint32, edges []api.Edge, weight func(e api.Edge) int64) [][]int64 {
	d := make([][]int64, n)
	for i := range d {
		d[i] = slices.Repeat([]int64{far}, int(n))
		d[i][i] = 0
	}
	for _, e := range edges {
		d[e.Src][e.Dst] = min(d[e.Src][e.Dst], weight(e))
	}
	for k := range d {
		for i := range d {
			for j := range d {
				if d[i][k] != far && d[k][j] != far {
					d[i][j] = min(d[i][j], max(d[i][k]+d[k][j], low))
				}
			}
		}
	}
	return d
}

func one(api.Edge) int64 { return 1 }

func counted(e api.Edge) int64 { return int64(int32(e.W)) }

// rightLevels holds words 0 and 1 of BFS's or Reach's result against P13.1 or P13.3.
func (k kernel) rightLevels(t *testing.T, states []api.State) {
	t.Helper()
	d := between(k.n, k.edges, one)
	level := func(v uint32) (least int64) {
		least = far
		for _, s := range k.sources {
			least = min(least, d[s][v])
		}
		return least
	}
	for v := range k.n {
		want := [2]uint64{api.Unreached, api.Unreached}
		if l := level(v); l != far {
			want = [2]uint64{uint64(l), k.from(d, v, l)}
		}
		if got := [2]uint64(states[v][:2]); got != want {
			t.Fatalf("%s over %v from %v: vertex %d: %d, want %d", k.name, k.edges, k.sources, v, got, want)
		}
	}
}

// from tells the parent (BFS) or the source (Reach) of a vertex of this level, by the chapter's words.
func (k kernel) from(d [][]int64, v uint32, level int64) uint64 {
	least := uint64(api.Unreached)
	if k.name == "reach" {
		for _, s := range k.sources {
			if d[s][v] == level {
				least = min(least, uint64(s))
			}
		}
		return least
	}
	if level == 0 {
		return uint64(v)
	}
	for _, e := range k.edges {
		if e.Dst == v && d[k.sources[0]][e.Src] == level-1 {
			least = min(least, uint64(e.Src))
		}
	}
	return least
}

// rightLabels holds word 0 of WCC's result against P13.4, by sets that are joined.
func (k kernel) rightLabels(t *testing.T, states []api.State) (components uint64) {
	t.Helper()
	set := make([]uint32, k.n)
	for v := range set {
		set[v] = uint32(v)
	}
	for _, e := range k.edges {
		a, b := set[e.Src], set[e.Dst]
		for v := range set {
			if set[v] == max(a, b) {
				set[v] = min(a, b)
			}
		}
	}
	for v, s := range states {
		if s[0] != uint64(set[v]) {
			t.Fatalf("P13.4: %v: vertex %d: %d, want %d", k.edges, v, s[0], set[v])
		}
		if set[v] == uint32(v) {
			components++
		}
	}
	return components
}

// weight tells how SSSP weighs an edge.
func (k kernel) weight(e api.Edge) int64 {
	if k.kind == api.EPlain {
		return one(e)
	}
	return counted(e)
}

// rightWays holds SSSP's result against P13.6, and tells whether a cycle below zero can be reached.
func (k kernel) rightWays(t *testing.T, states []api.State) (negative bool) {
	t.Helper()
	d := between(k.n, k.edges, k.weight)
	for v := range k.n {
		negative = negative || d[k.sources[0]][v] != far && d[v][v] < 0
	}
	for v, s := range states {
		if negative != (s[1] == 1) || s[1] > 1 || flows.Negative(s) != negative {
			t.Fatalf("P13.6: %v from %v: vertex %d: verdict %d, want %v", k.edges, k.sources, v, s[1], negative)
		}
	}
	if negative {
		return true
	}
	for v, want := range d[k.sources[0]] { // far is Endless
		if s := states[v]; int64(s[0]) != want {
			t.Fatalf("P13.6: %v from %v: vertex %d: %d, want %d", k.edges, k.sources, v, int64(s[0]), want)
		}
		k.rightHeight(t, states, uint32(v))
	}
	return false
}

// rightHeight holds word 2 of a vertex of SSSP's result against P13.6.
func (k kernel) rightHeight(t *testing.T, states []api.State, v uint32) {
	t.Helper()
	s := states[v]
	if v == k.sources[0] || s[0] == api.Endless {
		if s[2] != 0 {
			t.Fatalf("P13.6: %v from %v: vertex %d: word 2 is %d", k.edges, k.sources, v, s[2])
		}
		return
	}
	above := slices.ContainsFunc(k.edges, func(e api.Edge) bool {
		u := states[e.Src]
		return e.Dst == v && u[0] != api.Endless && int64(u[0])+k.weight(e) == int64(s[0]) && s[2] > u[2]
	})
	if !above {
		t.Fatalf("P13.6: %v from %v: vertex %d: word 2, %d, is above that of none on the way: %v", k.edges, k.sources, v, s[2], states)
	}
}

// right holds a result against the chapter.
func (k kernel) right(t *testing.T, states []api.State) {
	t.Helper()
	switch k.name {
	case "wcc":
		k.rightLabels(t, states)
	case "sssp":
		k.rightWays(t, states)
	default:
		k.rightLevels(t, states)
	}
}

// words tells some words of all states.
func words(states []api.State, at ...int) (l []uint64) {
	for _, s := range states {
		for _, i := range at {
			l = append(l, s[i])
		}
	}
	return l
}

// less tells the bits of -n.
func less(n uint32) uint32 { return -n }

// anyEdges tells edges among n vertices: none, few, many, a way through all in some order; with loops, and some of them several times.
func anyEdges(rnd *rand.Rand, n uint32) (edges []api.Edge) {
	most := []int{0, 1, int(n), int(n) * 2, int(n) * 5}[rnd.IntN(5)]
	for range rnd.IntN(most + 1) {
		edges = append(edges, api.Edge{Src: rnd.Uint32N(n), Dst: rnd.Uint32N(n)})
	}
	if rnd.IntN(3) == 0 {
		order := rnd.Perm(int(n))
		for i := 1; i < len(order); i++ {
			edges = append(edges, api.Edge{Src: uint32(order[i-1]), Dst: uint32(order[i])})
		}
	}
	for range rnd.IntN(3) {
		edges = append(edges, api.Edge{Src: rnd.Uint32N(n)})
		edges[len(edges)-1].Dst = edges[len(edges)-1].Src
		edges = append(edges, edges[rnd.IntN(len(edges))])
	}
	rnd.Shuffle(len(edges), func(i, j int) { edges[i], edges[j] = edges[j], edges[i] })
	return edges
}

// weigh gives edges weights of one sort: small ones; above zero; at the bounds of an int32; any; such that no cycle is below zero, though edges are, and many cycles are just 0.
func weigh(rnd *rand.Rand, n uint32, edges []api.Edge) {
	sort := rnd.IntN(6)
	height := make([]int32, n)
	for v := range height {
		height[v] = rnd.Int32N(41) - 20
	}
	bounds := []int32{math.MinInt32, math.MinInt32 + 1, -1, 0, 1, math.MaxInt32 - 1, math.MaxInt32}
	for i := range edges {
		e := &edges[i]
		slope := height[e.Dst] - height[e.Src]
		e.W = uint32([]int32{rnd.Int32N(9) - 1, rnd.Int32N(5), bounds[rnd.IntN(7)], int32(rnd.Uint32()), slope, slope + max(rnd.Int32N(4)-2, 0)}[sort])
	}
}

// anyKernel tells a kernel over a graph at random, of at most so many vertices.
func anyKernel(rnd *rand.Rand, name string, most uint32) kernel {
	k := kernel{name: name, n: 1 + rnd.Uint32N(most), kind: api.ECounted}
	k.edges = anyEdges(rnd, k.n)
	weigh(rnd, k.n, k.edges)
	if rnd.IntN(5) == 0 {
		k.kind = api.EPlain
	}
	k.sources = []uint32{rnd.Uint32N(k.n)}
	if name == "reach" {
		for range rnd.IntN(4) {
			k.sources = append(k.sources, rnd.Uint32N(k.n))
		}
	}
	return k
}
