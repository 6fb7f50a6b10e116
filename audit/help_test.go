package audit_test

import (
	"math"
	"math/rand/v2"
	"slices"
	"testing"

	"sluice/api"
	"sluice/audit"
	"sluice/flows"
	"sluice/knots"
	"sluice/peels"
	"sluice/ranks"
	"sluice/wheel"
)

const none = api.Unreached

var right = api.Verdict{Right: true}

// kernel is a function of the package with its arguments, over a graph.
type kernel struct {
	name    string
	n       uint32
	kind    api.EdgeKind
	edges   []api.Edge
	sources []uint32 // of Levels, Reached and Distances
	order   api.Rank // of Independent and Coloured, in the place of n
	damp    uint32   // of Ranks
	rounds  int      // of Ranks and Registers
	seed    uint64   // of Products, Crossings and Registers
}

// face is what the chapter says of a function.
type face struct {
	name   string
	places int   // of the room, a vertex
	words  []int // of a state that are looked at
	kinds  bool  // whether a kind is given
}

var faces = []face{
	{"Levels", 2, []int{0, 1}, false},
	{"Reached", 2, []int{0, 1}, false},
	{"Labels", 1, []int{0}, false},
	{"Distances", 1, []int{0, 1, 2}, true},
	{"Independent", 1, []int{0}, false},
	{"Coloured", 1, []int{0}, false},
	{"Cores", 2, []int{0}, false},
	{"Sccs", 2, []int{0}, false},
	{"TopoLevels", 1, []int{0}, false},
	{"TwoColours", 2, []int{0}, false},
	{"Ranks", 1, []int{6}, false},
	{"Products", 1, []int{7}, true},
	{"Crossings", 1, []int{0}, false},
	{"Registers", 2, []int{0}, false},
}

// faceOf tells the one of a name.
func faceOf(name string) face {
	return faces[slices.IndexFunc(faces, func(f face) bool { return f.name == name })]
}

// room is what a call is given: words, or states.
type room struct {
	words  []uint64
	states []api.State
}

// roomFor tells a room of so many places, in which anything stands.
func roomFor(places int) room {
	r := room{make([]uint64, places), make([]api.State, places)}
	for i := range places {
		r.words[i] = 0xa5a5a5a5a5a5a5a5 * uint64(i+1)
		for j := range r.states[i] {
			r.states[i][j] = 0xc3c3c3c3c3c3c3c3 * uint64(8*i+j+1)
		}
	}
	return r
}

// first tells the first so many places of the room.
func (r room) first(places int) room { return room{r.words[:places], r.states[:places]} }

func (r room) clone() room { return room{slices.Clone(r.words), slices.Clone(r.states)} }

// equalFrom tells whether two rooms hold the same from a place on.
func (r room) equalFrom(places int, other room) bool {
	return slices.Equal(r.words[places:], other.words[places:]) && slices.Equal(r.states[places:], other.states[places:])
}

// asked tells how many places the kernel's function asks for.
func (k kernel) asked() int { return faceOf(k.name).places * int(k.n) }

// call calls the function.
func (k kernel) call(edges audit.Edges, s []api.State, r room) (api.Verdict, api.Errno) {
	switch k.name {
	case "Levels":
		return audit.Levels(k.n, k.sources[0], edges, s, r.words)
	case "Reached":
		return audit.Reached(k.n, edges, s, r.words, k.sources...)
	case "Labels":
		return audit.Labels(k.n, edges, s, r.words)
	case "Distances":
		return audit.Distances(k.n, k.sources[0], k.kind, edges, s, r.words)
	case "Independent":
		return audit.Independent(k.order, edges, s, r.words)
	case "Coloured":
		return audit.Coloured(k.order, edges, s, r.words)
	case "Cores":
		return audit.Cores(k.n, edges, s, r.words)
	case "Sccs":
		return audit.Sccs(k.n, edges, s, r.words)
	case "TopoLevels":
		return audit.TopoLevels(k.n, edges, s, r.words)
	case "TwoColours":
		return audit.TwoColours(k.n, edges, s, r.words)
	case "Ranks":
		return audit.Ranks(k.n, k.damp, k.rounds, edges, s, r.states)
	case "Products":
		return audit.Products(k.n, k.kind, k.seed, edges, s, r.states)
	case "Crossings":
		return audit.Crossings(k.n, k.seed, edges, s, r.words)
	case "Registers":
		return audit.Registers(k.n, k.rounds, k.seed, edges, s, r.words)
	}
	panic(k.name)
}

// picked hands a constructor's program out as what it is.
func picked[P api.Program](p P, e api.Errno) (api.Program, api.Errno) { return p, e }

// program makes the program whose results the function looks at.
func (k kernel) program() (api.Program, api.Errno) {
	switch k.name {
	case "Levels":
		return picked(flows.BFS(k.n, k.sources[0]))
	case "Reached":
		return picked(flows.Reach(k.n, k.sources...))
	case "Labels":
		return picked(flows.WCC(k.n))
	case "Distances":
		return picked(flows.SSSP(k.n, k.sources[0], k.kind))
	case "Independent":
		return picked(peels.Set(k.order))
	case "Coloured":
		return picked(peels.Colour(k.order))
	case "Cores":
		return peels.Core(), api.OK
	case "Sccs":
		return picked(knots.SCC(k.n))
	case "TopoLevels":
		return picked(knots.Topo(k.n))
	case "TwoColours":
		return picked(knots.TwoColour(k.n))
	case "Ranks":
		return picked(ranks.PageRank(k.n, k.damp, k.rounds))
	case "Products":
		return picked(ranks.SpMV(k.n, k.kind, k.seed))
	case "Crossings":
		return picked(ranks.Conductance(k.n, k.seed))
	case "Registers":
		return picked(ranks.HyperANF(k.n, k.rounds, k.seed))
	}
	panic(k.name)
}

// result runs the program in memory.
func (k kernel) result(t testing.TB) []api.State {
	t.Helper()
	p, e := k.program()
	if e != api.OK {
		t.Fatalf("%+v: %d", k, e)
	}
	s, _, e := wheel.Memory(k.n, true, k.edges, p, api.MaxCap, 1)
	if e != api.OK {
		t.Fatalf("%+v: %d", k, e)
	}
	return s
}

// tape is edges that are watched while they are gone over.
type tape struct {
	edges  []api.Edge
	errs   map[int]api.Errno // what comes with the edge of that number
	from   int               // the pass, counted from 1 on, from which on the errors come
	passes int               // begun so far
	told   int               // edges in the last pass
	left   bool              // whether that one was left early
}

func (p *tape) all() audit.Edges {
	return func(yield func(api.Edge, api.Errno) bool) {
		p.passes++
		p.told, p.left = 0, false
		for i, e := range p.edges {
			err := api.OK
			if p.passes >= p.from {
				err = p.errs[i]
			}
			p.told++
			if !yield(e, err) {
				p.left = true
				return
			}
		}
	}
}

// verdict calls the function over the kernel's edges, in a room that is just long enough; the edges must have been gone over to their end each time.
func (k kernel) verdict(t testing.TB, s []api.State) api.Verdict {
	t.Helper()
	p := &tape{edges: k.edges}
	v, e := k.call(p.all(), s, roomFor(k.asked()))
	if e != api.OK || p.passes < 1 || p.left || p.told != len(k.edges) {
		t.Fatalf("P18.1: %+v of %v: %+v, %d; %d passes, the last one of %d edges, left early: %v", k, s, v, e, p.passes, p.told, p.left)
	}
	if v.Right && v != right {
		t.Fatalf("%+v: right, and %+v", k, v)
	}
	return v
}

// between tells edges by their ends, two and two.
func between(ends ...uint32) (l []api.Edge) {
	for i := 0; i+1 < len(ends); i += 2 {
		l = append(l, api.Edge{Src: ends[i], Dst: ends[i+1]})
	}
	return l
}

// weighed tells edges by their ends and weights, three and three.
func weighed(numbers ...int64) (l []api.Edge) {
	for i := 0; i+2 < len(numbers); i += 3 {
		l = append(l, api.Edge{Src: uint32(numbers[i]), Dst: uint32(numbers[i+1]), W: uint32(int32(numbers[i+2]))})
	}
	return l
}

// less tells the word of -n.
func less(n uint64) uint64 { return -n }

// plain tells the order in which vertex v has the priority v.
func plain(n uint32) api.Rank { return api.Rank{N: n, A: min(1, n-1)} }

// kernelOf tells a kernel of the name with arguments that may be.
func kernelOf(name string, n uint32, edges ...api.Edge) kernel {
	return kernel{name: name, n: n, kind: api.ECounted, edges: edges, sources: []uint32{0}, order: plain(n), damp: 0x3f000000, rounds: 3, seed: 5}
}

// anyWeight tells a W of that kind, often one at a bound.
func anyWeight(rnd *rand.Rand, kind api.EdgeKind) uint32 {
	switch kind {
	case api.ECounted:
		return []uint32{0, 1, math.MaxUint32, 1 << 31, 1<<31 - 1, rnd.Uint32N(9), rnd.Uint32()}[rnd.IntN(7)]
	case api.EReal:
		return []uint32{0, 1, 0x3f800000, 0x7f7fffff, 0x007fffff, 0x7f000000 + rnd.Uint32N(1<<23), rnd.Uint32N(0x7f800000)}[rnd.IntN(7)] | uint32(rnd.IntN(2))<<31
	}
	return 0
}

// anyEdges tells edges among n vertices: none, few, many, ways and rings through some of them, to few or from few of them, perhaps none that closes a cycle or makes a way round odd; with loops, and some of them several times.
func anyEdges(rnd *rand.Rand, n uint32) (edges []api.Edge) {
	most := []int{0, 1, int(n), int(n) * 2, int(n) * 4}[rnd.IntN(5)]
	from, to := 1+rnd.Uint32N(n), 1+rnd.Uint32N(n)
	for range rnd.IntN(most + 1) {
		edges = append(edges, between(rnd.Uint32N(from), n-1-rnd.Uint32N(to))...)
	}
	for range rnd.IntN(3) { // a ring through some, or a way
		order := rnd.Perm(int(n))[:1+rnd.IntN(int(n))]
		for i := rnd.IntN(2); i < len(order); i++ {
			edges = append(edges, between(uint32(order[(i+len(order)-1)%len(order)]), uint32(order[i]))...)
		}
	}
	switch order := rnd.Perm(int(n)); rnd.IntN(4) {
	case 0:
		edges = slices.DeleteFunc(edges, func(e api.Edge) bool { return order[e.Src] >= order[e.Dst] })
	case 1:
		edges = slices.DeleteFunc(edges, func(e api.Edge) bool { return order[e.Src]%2 == order[e.Dst]%2 })
	case 2:
		v := rnd.Uint32N(n)
		edges = append(edges, between(v, v)...)
	}
	for range rnd.IntN(4) {
		if len(edges) > 0 {
			edges = append(edges, edges[rnd.IntN(len(edges))])
		}
	}
	rnd.Shuffle(len(edges), func(i, j int) { edges[i], edges[j] = edges[j], edges[i] })
	return edges
}

// weigh gives the edges weights of one sort: any of the kind; small ones; such that no cycle is below zero, though edges are, and many cycles are just 0.
func (k *kernel) weigh(rnd *rand.Rand) {
	sort := rnd.IntN(4)
	height := make([]int32, k.n)
	for v := range height {
		height[v] = rnd.Int32N(9) - 4
	}
	for i := range k.edges {
		e := &k.edges[i]
		e.W = anyWeight(rnd, k.kind)
		if k.kind == api.ECounted && sort > 0 {
			slope := height[e.Dst] - height[e.Src]
			e.W = uint32([]int32{rnd.Int32N(9) - 1, slope, slope + max(rnd.Int32N(4)-2, 0)}[sort-1])
		}
	}
}

// anyKernel tells a kernel over a graph at random, of at most so many vertices.
func anyKernel(rnd *rand.Rand, name string, most uint32) kernel {
	k := kernel{name: name, n: 1 + rnd.Uint32N(most), seed: rnd.Uint64()}
	k.kind = api.EPlain + api.EdgeKind(rnd.IntN(3))
	if name == "Distances" {
		k.kind = []api.EdgeKind{api.EPlain, api.ECounted, api.ECounted, api.ECounted}[rnd.IntN(4)]
	}
	k.edges = anyEdges(rnd, k.n)
	k.weigh(rnd)
	k.sources = []uint32{rnd.Uint32N(k.n)}
	if name == "Reached" {
		for range rnd.IntN(4) {
			k.sources = append(k.sources, rnd.Uint32N(k.n))
		}
	}
	k.order, _ = peels.RankOf(k.n, rnd.Uint64())
	k.damp = []uint32{1, 0x3f000000, 0x3f59999a, 0x3f7fffff, 1 + rnd.Uint32N(0x3f7fffff)}[rnd.IntN(5)]
	k.rounds = []int{1, 2, 1 + rnd.IntN(12), 50}[rnd.IntN(4)]
	return k
}

// anyWord tells a word, often one that means something, or one at a bound.
func anyWord(rnd *rand.Rand, n uint32) uint64 {
	if rnd.IntN(2) == 0 {
		return rnd.Uint64N(uint64(n) + 1)
	}
	return []uint64{0, 1, 2, 63, 64, uint64(n) - 1, uint64(n), uint64(n) + 1, 1<<31 - 1, math.MaxUint32, 1 << 32, api.Endless - 1, api.Endless, 1 << 63, 1<<63 + 1, none - 1, none, rnd.Uint64()}[rnd.IntN(18)]
}

// shaken tells the states with some words turned, among them perhaps some that are not looked at.
func shaken(rnd *rand.Rand, k kernel, states []api.State) []api.State {
	states = slices.Clone(states)
	words := faceOf(k.name).words
	for range rnd.IntN(4) {
		s := &states[rnd.IntN(len(states))]
		at := words[rnd.IntN(len(words))]
		switch rnd.IntN(4) {
		case 0:
			s[at]++
		case 1:
			s[at]--
		case 2:
			s[at] = states[rnd.IntN(len(states))][at]
		default:
			s[at] = anyWord(rnd, k.n)
		}
	}
	if rnd.IntN(3) == 0 {
		states[rnd.IntN(len(states))][rnd.IntN(8)] = rnd.Uint64()
	}
	return states
}
