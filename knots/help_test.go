package knots_test

import (
	"math"
	"math/rand/v2"
	"slices"
	"testing"

	"sluice/api"
	"sluice/knots"
	"sluice/wheel"
)

const none = math.MaxUint64

// kernel is one of the three programs over a graph, with what the chapter asks of it.
type kernel struct {
	name  string
	n     uint32
	kind  api.EdgeKind
	edges []api.Edge
}

// names of the three programs.
var names = []string{"scc", "topo", "colour"}

// makeOf makes the program of a name for n vertices.
func makeOf(name string, n uint32) (*knots.Knots, api.Errno) {
	switch name {
	case "scc":
		return knots.SCC(n)
	case "topo":
		return knots.Topo(n)
	}
	return knots.TwoColour(n)
}

func (k kernel) program(t *testing.T) *knots.Knots {
	t.Helper()
	p, e := makeOf(k.name, k.n)
	if p == nil || e != api.OK {
		t.Fatalf("%s of %d: %v, %d", k.name, k.n, p, e)
	}
	return p
}

// bound tells within how many rounds the run is done.
func (k kernel) bound() int {
	n := int(k.n)
	return map[string]int{"scc": n * (2*n + 4), "topo": n + 2, "colour": 3*n + 6}[k.name]
}

// want tells the word 0 of all vertices at the end, by what the chapter says of ways, and by no rounds.
func (k kernel) want() []uint64 {
	switch k.name {
	case "scc":
		return k.components()
	case "topo":
		return k.levels()
	}
	return k.colours()
}

// mark is the word 0 of the vertices that the aggregate counts.
func (k kernel) mark() uint64 {
	if k.name == "colour" {
		return 2
	}
	return none
}

// marked counts the vertices that have the mark.
func (k kernel) marked(words []uint64) (count uint64) {
	for _, w := range words {
		if w == k.mark() {
			count++
		}
	}
	return count
}

// far is more edges than any way has that is asked for.
const far = 1 << 30

// steps tells the fewest edges, one at least, of a way from each vertex to each; far, if there is none.
func (k kernel) steps(both bool) [][]int {
	l := make([][]int, k.n)
	for u := range l {
		l[u] = slices.Repeat([]int{far}, int(k.n))
	}
	for _, e := range k.edges {
		l[e.Src][e.Dst] = 1
		if both {
			l[e.Dst][e.Src] = 1
		}
	}
	for m := range l {
		for u := range l {
			for v := range l {
				l[u][v] = min(l[u][v], l[u][m]+l[m][v])
			}
		}
	}
	return l
}

func (k kernel) components() (words []uint64) {
	steps := k.steps(false)
	for v := range steps {
		least := v
		for w := range steps {
			if steps[v][w] < far && steps[w][v] < far {
				least = min(least, w)
			}
		}
		words = append(words, uint64(least))
	}
	return words
}

func (k kernel) levels() (words []uint64) {
	steps := k.steps(false)
	for v := range steps {
		words = append(words, k.level(steps, v, map[int]uint64{}))
	}
	return words
}

// level tells the longest way that leads to a vertex, edge by edge.
func (k kernel) level(steps [][]int, v int, known map[int]uint64) uint64 {
	if level, ok := known[v]; ok {
		return level
	}
	for u := range steps {
		if steps[u][u] < far && (u == v || steps[u][v] < far) {
			return none
		}
	}
	level := uint64(0)
	for _, e := range k.edges {
		if int(e.Dst) == v {
			level = max(level, 1+k.level(steps, int(e.Src), known))
		}
	}
	known[v] = level
	return level
}

func (k kernel) colours() []uint64 {
	steps := k.steps(true)
	least := func(v uint32) int {
		for u := range steps {
			if u == int(v) || steps[u][v] < far {
				return u
			}
		}
		panic("it is there itself")
	}
	words := make([]uint64, k.n)
	for v := range words {
		if u := least(uint32(v)); u != v {
			words[v] = uint64(steps[u][v] % 2)
		}
	}
	odd := map[int]struct{}{}
	for _, e := range k.edges {
		if words[e.Src] == words[e.Dst] {
			odd[least(e.Src)] = struct{}{}
		}
	}
	for v := range words {
		if _, ok := odd[least(uint32(v))]; ok {
			words[v] = 2
		}
	}
	return words
}

// firsts tells the word 0 of each state.
func firsts(states []api.State) (words []uint64) {
	for _, s := range states {
		words = append(words, s[0])
	}
	return words
}

// watched is a program whose states are written down, and looked at together with the aggregate behind each round.
type watched struct {
	api.Program
	states []api.State
	look   func(round int, states []api.State, agg api.State)
}

func (w *watched) Apply(c api.Ctl, agg api.State, v uint32, s api.State) (api.State, bool, api.Errno) {
	next, changed, e := w.Program.Apply(c, agg, v, s)
	w.states[v] = next
	return next, changed, e
}

func (w *watched) Turn(c api.Ctl, agg api.State, changed uint64, round int) (api.Ctl, bool, api.Errno) {
	w.look(round, w.states, agg)
	return w.Program.Turn(c, agg, changed, round)
}

// run makes the kernel's rounds in memory, with no room for one more than the chapter says. Behind each round a vertex of SCC or Topo is marked, or has what it has at the end, and the aggregate tells how many are marked; of TwoColour that is so at the end.
func (k kernel) run(t *testing.T) ([]api.State, api.Stats, api.State) {
	t.Helper()
	want := k.want()
	var last api.State
	w := &watched{Program: k.program(t), states: make([]api.State, k.n)}
	w.look = func(round int, states []api.State, agg api.State) {
		t.Helper()
		if last = agg; k.name == "colour" {
			return
		}
		words := firsts(states)
		if agg[0] != k.marked(words) {
			t.Fatalf("%s behind round %d: %d are marked, agg %v: %+v", k.name, round, k.marked(words), agg, k)
		}
		for v, word := range words {
			if word != none && word != want[v] {
				t.Fatalf("%s behind round %d: vertex %d has %d, want %d: %+v", k.name, round, v, word, want[v], k)
			}
		}
	}
	states, stats, e := wheel.Memory(k.n, true, k.edges, w, k.bound(), 1)
	if words := firsts(states); e != api.OK || !slices.Equal(words, want) || last[0] != k.marked(want) {
		t.Fatalf("%s: %v, agg %v, %v, %d, want %v: %+v", k.name, words, last, stats, e, want, k)
	}
	return states, stats, last
}

// between tells edges by their ends, two and two.
func between(ends ...uint32) (l []api.Edge) {
	for i := 0; i+1 < len(ends); i += 2 {
		l = append(l, api.Edge{Src: ends[i], Dst: ends[i+1]})
	}
	return l
}

// turned tells the edges the other way.
func turned(edges []api.Edge) (l []api.Edge) {
	for _, e := range edges {
		l = append(l, api.Edge{Src: e.Dst, Dst: e.Src, W: e.W})
	}
	return l
}

// renamed tells the edges with vertex v named order[v].
func renamed(edges []api.Edge, order []int) (l []api.Edge) {
	for _, e := range edges {
		l = append(l, api.Edge{Src: uint32(order[e.Src]), Dst: uint32(order[e.Dst]), W: e.W})
	}
	return l
}

// shuffled tells the same edges in another order.
func shuffled(rnd *rand.Rand, edges []api.Edge) []api.Edge {
	edges = slices.Clone(edges)
	rnd.Shuffle(len(edges), func(i, j int) { edges[i], edges[j] = edges[j], edges[i] })
	return edges
}

// shape is a graph that can be made of any size.
type shape struct {
	name string
	make func(n uint32) []api.Edge
}

// shapes tells graphs that need many rounds, or are of a kind of their own.
func shapes() []shape {
	way := func(n uint32) (l []api.Edge) {
		for v := uint32(1); v < n; v++ {
			l = append(l, between(v-1, v)...)
		}
		return l
	}
	ring := func(n uint32) []api.Edge { return append(way(n), between(n-1, 0)...) }
	return []shape{
		{"no edges", func(uint32) []api.Edge { return nil }},
		{"a way", way},
		{"a ring", ring},
		{"a ring with chords", func(n uint32) (l []api.Edge) {
			l = ring(n)
			for v := uint32(3); v < n; v += 3 {
				l = append(l, between(v, v-3)...)
			}
			return l
		}},
		{"a way there and back", func(n uint32) []api.Edge { return append(way(n), turned(way(n))...) }},
		{"a way and a loop at its end", func(n uint32) []api.Edge { return append(way(n), between(n-1, n-1)...) }},
		{"a way and a loop at its beginning", func(n uint32) []api.Edge { return append(way(n), between(0, 0)...) }},
		{"all loops", func(n uint32) (l []api.Edge) {
			for v := range n {
				l = append(l, between(v, v)...)
			}
			return append(l, way(n)...)
		}},
		{"a way, each edge three times", func(n uint32) []api.Edge { return slices.Concat(way(n), way(n), way(n)) }},
		{"a comb", func(n uint32) (l []api.Edge) { // even vertices are the back, odd ones the teeth
			for v := uint32(1); v < n; v++ {
				l = append(l, between(v-1-(v+1)%2, v)...)
			}
			return l
		}},
		{"a comb whose teeth lead in", func(n uint32) (l []api.Edge) {
			for v := uint32(1); v < n; v++ {
				if v%2 == 1 {
					l = append(l, between(v, v-1)...)
				} else {
					l = append(l, between(v-2, v)...)
				}
			}
			return l
		}},
		{"a chain of pairs", func(n uint32) (l []api.Edge) {
			for v := uint32(1); v < n; v += 2 {
				l = append(l, between(v-1, v, v, v-1)...)
			}
			return append(l, way(n)...)
		}},
		{"a chain of rings of three", func(n uint32) (l []api.Edge) {
			for v := uint32(2); v < n; v += 3 {
				l = append(l, between(v, v-2)...)
			}
			return append(l, way(n)...)
		}},
		{"rings in rings", func(n uint32) (l []api.Edge) {
			for v := uint32(1); v < n; v++ {
				l = append(l, between(v, v/2)...)
			}
			return append(l, way(n)...)
		}},
		{"ways of unlike lengths", func(n uint32) (l []api.Edge) {
			for v := uint32(2); v < n; v++ {
				l = append(l, between(0, v, v/2, v)...)
			}
			return append(l, way(n)...)
		}},
		{"all to all, upwards", func(n uint32) (l []api.Edge) {
			for v := range n {
				for u := range v {
					l = append(l, between(u, v)...)
				}
			}
			return l
		}},
		{"a star", func(n uint32) (l []api.Edge) {
			for v := uint32(1); v < n; v++ {
				l = append(l, between(0, v)...)
			}
			return l
		}},
		{"several ways and rings", func(n uint32) (l []api.Edge) { // the third, the fifth, .. begin anew; each second one is closed
			for v, last := uint32(1), uint32(0); v < n; v++ {
				if v%7 == 3 || v%7 == 5 {
					if v%7 == 5 {
						l = append(l, between(v-1, last)...)
					}
					last = v
					continue
				}
				l = append(l, between(v-1, v)...)
			}
			return l
		}},
	}
}

// numberings tells orders in which n vertices are named: upwards, downwards, mixed.
func numberings(n int) map[string][]int {
	up := make([]int, n)
	down := make([]int, n)
	for v := range n {
		up[v], down[v] = v, n-1-v
	}
	last := append([]int{n - 1}, up[:n-1]...)
	rnd := rand.New(rand.NewPCG(uint64(n), 160))
	return map[string][]int{"upwards": up, "downwards": down, "the first comes last": last, "mixed": rnd.Perm(n), "mixed again": rnd.Perm(n)}
}

// anyEdges tells edges among n vertices: none, few, many, a way or a ring through all or some, upwards alone, to few or from few of them; with loops, some of them several times.
func anyEdges(rnd *rand.Rand, n uint32, kind api.EdgeKind) (edges []api.Edge) {
	most := []int{0, 1, int(n), int(n) * 2, int(n) * 5}[rnd.IntN(5)]
	from, to := 1+rnd.Uint32N(n), 1+rnd.Uint32N(n)
	for range rnd.IntN(most + 1) {
		edges = append(edges, between(rnd.Uint32N(from), n-1-rnd.Uint32N(to))...)
	}
	for range rnd.IntN(3) { // with a ring of even length among them colours may be, with one of odd length not
		order := rnd.Perm(int(n))[:1+rnd.IntN(int(n))]
		for i := 1; i < len(order); i++ {
			edges = append(edges, between(uint32(order[i-1]), uint32(order[i]))...)
		}
		if rnd.IntN(2) == 0 && len(order) > 1 {
			edges = append(edges, between(uint32(order[len(order)-1]), uint32(order[0]))...)
		}
	}
	if rnd.IntN(3) == 0 { // no cycle
		order := rnd.Perm(int(n))
		edges = slices.DeleteFunc(edges, func(e api.Edge) bool { return order[e.Src] >= order[e.Dst] })
	} else if rnd.IntN(3) == 0 { // no way round of odd length
		edges = slices.DeleteFunc(edges, func(e api.Edge) bool { return e.Src%2 == e.Dst%2 })
	}
	if rnd.IntN(3) == 0 {
		v := rnd.Uint32N(n)
		edges = append(edges, between(v, v)...)
	}
	for range rnd.IntN(4) {
		if len(edges) > 0 {
			edges = append(edges, edges[rnd.IntN(len(edges))])
		}
	}
	for i := range edges {
		edges[i].W = anyWeight(rnd, kind)
	}
	return shuffled(rnd, edges)
}

// anyWeight tells a W of that kind.
func anyWeight(rnd *rand.Rand, kind api.EdgeKind) uint32 {
	switch kind {
	case api.ECounted:
		return []uint32{0, 1, math.MaxUint32, 1 << 31, rnd.Uint32()}[rnd.IntN(5)]
	case api.EReal:
		return []uint32{0, 1, 0x3f800000, 0xff7fffff, rnd.Uint32N(0x7f800000)}[rnd.IntN(5)]
	}
	return 0
}

// anyKernel tells a kernel over a graph at random, of at most so many vertices.
func anyKernel(rnd *rand.Rand, name string, most uint32) kernel {
	k := kernel{name: name, n: 1 + rnd.Uint32N(most), kind: api.EPlain + api.EdgeKind(rnd.IntN(3))}
	k.edges = anyEdges(rnd, k.n, k.kind)
	return k
}

// anyWord tells a word, often one that means something, or one at a bound.
func anyWord(rnd *rand.Rand) uint64 {
	if rnd.IntN(4) == 0 {
		return rnd.Uint64()
	}
	return []uint64{0, 1, 2, 3, 4, 5, 1 << 31, math.MaxUint32, 1 << 32, 1<<63 - 1, 1 << 63, none - 1, none}[rnd.IntN(13)]
}

func anyState(rnd *rand.Rand) (s api.State) {
	for i := range s {
		s[i] = anyWord(rnd)
	}
	return s
}
