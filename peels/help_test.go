package peels_test

import (
	"math"
	"math/rand/v2"
	"slices"
	"testing"

	"sluice/api"
	"sluice/peels"
	"sluice/wheel"
)

// none is what stands where nothing was gathered of priorities.
const none = math.MaxUint64

// kernel is one of the three programs over a graph, with what the chapter asks of it.
type kernel struct {
	name  string
	order api.Rank // its N is the number of vertices
	edges []api.Edge
}

// names of the three programs.
var names = []string{"set", "colour", "core"}

// most tells how many rounds the kernel may have.
func (k kernel) most() int {
	if k.name == "core" {
		return 2*int(k.order.N) + 1
	}
	return int(k.order.N)
}

// peel makes the program.
func (k kernel) peel(t *testing.T) *peels.Peel {
	t.Helper()
	var p *peels.Peel
	var e api.Errno
	switch k.name {
	case "set":
		p, e = peels.Set(k.order)
	case "colour":
		p, e = peels.Colour(k.order)
	case "core":
		p = peels.Core()
	}
	if p == nil || e != api.OK {
		t.Fatalf("%s of %v: %v, %d", k.name, k.order, p, e)
	}
	return p
}

// watched is a program whose states are written down, and looked at together with the aggregate and the ctl behind each round.
type watched struct {
	api.Program
	states []api.State
	agg    api.State
	look   func(round int, states []api.State, agg api.State, next api.Ctl)
}

func (w *watched) Apply(c api.Ctl, agg api.State, v uint32, s api.State) (api.State, bool, api.Errno) {
	next, changed, e := w.Program.Apply(c, agg, v, s)
	w.states[v] = next
	return next, changed, e
}

func (w *watched) Turn(c api.Ctl, agg api.State, changed uint64, round int) (api.Ctl, bool, api.Errno) {
	w.agg = agg
	next, done, e := w.Program.Turn(c, agg, changed, round)
	w.look(round, w.states, agg, next)
	return next, done, e
}

// run makes the kernel's rounds in memory, within as many as the chapter allows; the aggregate is held against the states behind each of them.
func (k kernel) run(t *testing.T) ([]api.State, api.Stats, api.State, api.Errno) {
	t.Helper()
	w := &watched{Program: k.peel(t), states: make([]api.State, k.order.N)}
	w.look = func(round int, states []api.State, agg api.State, _ api.Ctl) {
		t.Helper()
		if want := k.aggregate(states); agg != want {
			t.Fatalf("P14.3: %s of %v over %v: the aggregate behind round %d is %v, want %v", k.name, k.order, k.edges, round, agg, want)
		}
	}
	s, stats, e := wheel.Memory(k.order.N, true, k.edges, w, k.most(), 1)
	return s, stats, w.agg, e
}

// aggregate tells what the chapter says of the aggregate while these are the states.
func (k kernel) aggregate(states []api.State) (agg api.State) {
	var left []uint64
	for _, s := range states {
		switch s[1] {
		case 0:
			left = append(left, s[2])
		case 1:
			agg[2]++
		}
	}
	agg[0] = uint64(len(left))
	if k.name != "core" {
		return api.State{agg[0]}
	}
	if len(left) > 0 {
		agg[1] = slices.Min(left)
	}
	return agg
}

// neighbours tells of each vertex its neighbours, each once.
func (k kernel) neighbours() [][]uint32 {
	l := make([][]uint32, k.order.N)
	for _, e := range k.edges {
		if e.Src != e.Dst {
			l[e.Src] = append(l[e.Src], e.Dst)
			l[e.Dst] = append(l[e.Dst], e.Src)
		}
	}
	for v := range l {
		slices.Sort(l[v])
		l[v] = slices.Compact(l[v])
	}
	return l
}

// byPriority tells the vertices in their order.
func (k kernel) byPriority() []uint32 {
	l := make([]uint32, k.order.N)
	for v := range uint64(k.order.N) {
		l[(uint64(k.order.A)*v+uint64(k.order.C))%uint64(k.order.N)] = uint32(v)
	}
	return l
}

// firstSet tells of each vertex 1, if it is in the first independent set: one after the other, as the chapter's Words say.
func (k kernel) firstSet() []uint64 {
	in := make([]uint64, k.order.N)
	near := k.neighbours()
	for _, v := range k.byPriority() {
		if !slices.ContainsFunc(near[v], func(u uint32) bool { return in[u] == 1 }) {
			in[v] = 1
		}
	}
	return in
}

// firstColours tells each vertex's colour, however many there are, and the greatest.
func (k kernel) firstColours() (colours []uint64, greatest uint64) {
	colours = make([]uint64, k.order.N)
	near := k.neighbours()
	var gone []uint32
	for _, v := range k.byPriority() {
		for slices.ContainsFunc(gone, func(u uint32) bool {
			return colours[u] == colours[v] && slices.Contains(near[v], u)
		}) {
			colours[v]++
		}
		gone = append(gone, v)
		greatest = max(greatest, colours[v])
	}
	return colours, greatest
}

// within tells how many edges a vertex has to others of a set.
func (k kernel) within(v uint32, set []bool) (n uint64) {
	for _, e := range k.edges {
		if e.Src != e.Dst && (e.Src == v && set[e.Dst] || e.Dst == v && set[e.Src]) {
			n++
		}
	}
	return n
}

// coreNumbers tells them: for each k all vertices are taken, and those that have too few edges to others are struck out one at a time; who is left over has k at least.
func (k kernel) coreNumbers() []uint64 {
	numbers := make([]uint64, k.order.N)
	for least := uint64(1); ; least++ {
		set := slices.Repeat([]bool{true}, int(k.order.N))
		for k.strikeOne(set, least) {
		}
		if !slices.Contains(set, true) {
			return numbers
		}
		for v := range set {
			if set[v] {
				numbers[v] = least
			}
		}
	}
}

// strikeOne takes one vertex that has fewer edges to others of the set out of it, if there is one.
func (k kernel) strikeOne(set []bool, least uint64) bool {
	for v := range set {
		if set[v] && k.within(uint32(v), set) < least {
			set[v] = false
			return true
		}
	}
	return false
}

// coresBySets tells core numbers by the chapter's words themselves: of all sets of vertices.
func (k kernel) coresBySets() []uint64 {
	numbers := make([]uint64, k.order.N)
	for mask := range 1 << k.order.N {
		set := make([]bool, k.order.N)
		least := uint64(none)
		for v := range set {
			set[v] = mask>>v&1 == 1
		}
		for v := range set {
			if set[v] {
				least = min(least, k.within(uint32(v), set))
			}
		}
		for v := range set {
			if set[v] {
				numbers[v] = max(numbers[v], least)
			}
		}
	}
	return numbers
}

// want tells word 0 of the result, or the error that the run ends with.
func (k kernel) want() ([]uint64, api.Errno) {
	switch k.name {
	case "set":
		return k.firstSet(), api.OK
	case "colour":
		colours, greatest := k.firstColours()
		if greatest >= api.MaxColours {
			return nil, api.ErrColours
		}
		return colours, api.OK
	}
	return k.coreNumbers(), api.OK
}

// right holds how a run ended against the chapter.
func (k kernel) right(t *testing.T, states []api.State, e api.Errno) {
	t.Helper()
	want, wrong := k.want()
	if got := words(states, 0); e != wrong || !slices.Equal(got, want) {
		t.Fatalf("P14.5 to P14.7: %s of %v over %v: %d, %d, want %d, %d", k.name, k.order, k.edges, got, e, want, wrong)
	}
	near := k.neighbours()
	for v, s := range states {
		if peels.InSet(s) != (want[v] == 1) || uint64(peels.ColourOf(s)) != want[v]%64 || peels.CoreOf(s) != want[v] {
			t.Fatalf("P14.4: %s: %v", k.name, s)
		}
		alike := func(u uint32) bool { return states[u][0] == s[0] }
		switch {
		case k.name == "set" && s[0] == 1 && slices.ContainsFunc(near[v], alike), k.name == "set" && s[0] == 0 && slices.IndexFunc(near[v], func(u uint32) bool { return !alike(u) }) < 0:
			t.Fatalf("P14.5: %v over %v: vertex %d, neighbours %v: %v", k.order, k.edges, v, near[v], states)
		case k.name == "colour" && (slices.ContainsFunc(near[v], alike) || s[0] > uint64(len(near[v]))):
			t.Fatalf("P14.6: %v over %v: vertex %d, neighbours %v: %v", k.order, k.edges, v, near[v], states)
		}
	}
}

// words tells some words of all states.
func words(states []api.State, at ...int) (l []uint64) {
	for _, s := range states {
		for _, i := range at {
			l = append(l, s[i])
		}
	}
	return l
}

// between tells edges by their ends, two and two.
func between(ends ...uint32) (l []api.Edge) {
	for i := 0; i+1 < len(ends); i += 2 {
		l = append(l, api.Edge{Src: ends[i], Dst: ends[i+1]})
	}
	return l
}

// chain tells a way through all vertices, in their order.
func chain(n uint32) (l []api.Edge) {
	for v := uint32(1); v < n; v++ {
		l = append(l, api.Edge{Src: v - 1, Dst: v})
	}
	return l
}

// all tells an edge between each two of n vertices, from the first one on.
func all(first, n uint32) (l []api.Edge) {
	for v := range n {
		for u := range v {
			l = append(l, api.Edge{Src: first + v, Dst: first + u})
		}
	}
	return l
}

// shuffled tells the same edges in another order.
func shuffled(rnd *rand.Rand, edges []api.Edge) []api.Edge {
	edges = slices.Clone(edges)
	rnd.Shuffle(len(edges), func(i, j int) { edges[i], edges[j] = edges[j], edges[i] })
	return edges
}

// anyEdges tells edges among n vertices: none, few, many, several components, a way through all, all with all, few vertices that have many; with loops, and some of them several times, either way.
func anyEdges(rnd *rand.Rand, n uint32) (edges []api.Edge) {
	most := []int{0, 1, int(n), int(n) * 2, int(n) * 5}[rnd.IntN(5)]
	cut := 1 + rnd.Uint32N(n)
	for range rnd.IntN(most + 1) {
		e := api.Edge{Src: rnd.Uint32N(n), Dst: rnd.Uint32N(n), W: rnd.Uint32()}
		if e.Src < cut {
			e.Dst %= cut
		}
		edges = append(edges, e)
	}
	switch rnd.IntN(6) {
	case 0:
		order := rnd.Perm(int(n))
		for i := 1; i < len(order); i++ {
			edges = append(edges, api.Edge{Src: uint32(order[i-1]), Dst: uint32(order[i])})
		}
	case 1:
		edges = append(edges, all(0, 1+rnd.Uint32N(min(n, 12)))...)
	}
	for range rnd.IntN(4) {
		v := rnd.Uint32N(n)
		edges = append(edges, api.Edge{Src: v, Dst: v})
		e := edges[rnd.IntN(len(edges))]
		edges = append(edges, e, api.Edge{Src: e.Dst, Dst: e.Src})
	}
	return shuffled(rnd, edges)
}

// anyOrder tells an order of n vertices: any, or that of their numbers.
func anyOrder(rnd *rand.Rand, n uint32) api.Rank {
	r, _ := peels.RankOf(n, rnd.Uint64())
	if rnd.IntN(4) == 0 {
		r.A, r.C = min(1, n-1), 0
	}
	return r
}

// anyKernel tells a kernel over a graph at random, of at most so many vertices.
func anyKernel(rnd *rand.Rand, name string, most uint32) kernel {
	n := 1 + rnd.Uint32N(most)
	return kernel{name, anyOrder(rnd, n), anyEdges(rnd, n)}
}

// anyWord tells a word, often one that means something, or one at a bound.
func anyWord(rnd *rand.Rand) uint64 {
	if rnd.IntN(5) == 0 {
		return rnd.Uint64()
	}
	return []uint64{0, 1, 2, 3, 4, 5, 6, 63, 64, math.MaxUint32, 1 << 32, 1<<63 - 1, 1 << 63, none - 1, none}[rnd.IntN(15)]
}

func anyState(rnd *rand.Rand) (s api.State) {
	for i := range s {
		s[i] = anyWord(rnd)
	}
	return s
}
