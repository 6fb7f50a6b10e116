package ranks_test

import (
	"math"
	"math/big"
	"math/rand/v2"
	"slices"
	"testing"

	"sluice/api"
	"sluice/ranks"
	"sluice/wheel"
)

// kernel is one of the four programs over a graph, with what the chapter asks of it.
type kernel struct {
	name   string
	n      uint32
	kind   api.EdgeKind
	edges  []api.Edge
	damp   uint32 // of pages
	rounds int    // of pages and balls; the others have one
	seed   uint64 // of all but pages
}

// names of the four programs.
var names = []string{"pages", "products", "borders", "balls"}

// ranker makes the program.
func (k kernel) ranker(t *testing.T) *ranks.Ranker {
	t.Helper()
	var p *ranks.Ranker
	var e api.Errno
	switch k.name {
	case "pages":
		p, e = ranks.PageRank(k.n, k.damp, k.rounds)
	case "products":
		p, e = ranks.SpMV(k.n, k.kind, k.seed)
	case "borders":
		p, e = ranks.Conductance(k.n, k.seed)
	case "balls":
		p, e = ranks.HyperANF(k.n, k.rounds, k.seed)
	}
	if p == nil || e != api.OK {
		t.Fatalf("%s of %d, %x, %d: %v, %d", k.name, k.n, k.damp, k.rounds, p, e)
	}
	return p
}

// What is reckoned here goes by fractions without bounds, which are rounded where the chapter says so: by no float32 of the machine, and by none of layer 2's sums.

func whole[T uint32 | uint64](x T) *big.Rat { return new(big.Rat).SetUint64(uint64(x)) }

func fraction(bits uint32) *big.Rat {
	r := new(big.Rat)
	if r.SetFloat64(float64(math.Float32frombits(bits))) == nil {
		panic("no number")
	}
	return r
}

func near(r *big.Rat) uint32 {
	x, _ := r.Float32()
	return math.Float32bits(x)
}

// rounded tells a fraction rounded, as one. What comes to that is never infinite.
func rounded(r *big.Rat) *big.Rat { return fraction(near(r)) }

func add(a, b *big.Rat) *big.Rat { return new(big.Rat).Add(a, b) }
func sub(a, b *big.Rat) *big.Rat { return new(big.Rat).Sub(a, b) }
func mul(a, b *big.Rat) *big.Rat { return new(big.Rat).Mul(a, b) }
func quo(a, b *big.Rat) *big.Rat { return new(big.Rat).Quo(a, b) }

// sumOf tells the words of an exact sum, modulo 2^384.
func sumOf(r *big.Rat) (words api.State) {
	units := mul(r, new(big.Rat).SetInt(new(big.Int).Lsh(big.NewInt(1), 149)))
	if !units.IsInt() {
		panic("no sum")
	}
	n := new(big.Int).And(units.Num(), new(big.Int).Sub(new(big.Int).Lsh(big.NewInt(1), 384), big.NewInt(1)))
	for i := range 6 {
		words[i] = new(big.Int).And(new(big.Int).Rsh(n, uint(64*i)), new(big.Int).SetUint64(math.MaxUint64)).Uint64()
	}
	return words
}

// told is what stands behind a round: of the states the words that the chapter fixes, and of the aggregate.
type told struct {
	states  []api.State
	agg     api.State
	changed uint64
	updates uint64
}

// want tells all rounds of the kernel.
func (k kernel) want() []told {
	switch k.name {
	case "pages":
		return k.pages()
	case "products":
		return k.products()
	case "borders":
		return k.borders()
	}
	return k.balls()
}

// shown tells a state's words that the chapter fixes.
func (k kernel) shown(s api.State) api.State {
	if k.name == "balls" {
		return api.State{s[0]}
	}
	return s
}

func (k kernel) degrees() []uint64 {
	l := make([]uint64, k.n)
	for _, e := range k.edges {
		l[e.Src]++
	}
	return l
}

// newRank tells a rank by what comes and by what those without out-edges have.
func (k kernel) newRank(came, given *big.Rat) *big.Rat {
	n := rounded(whole(k.n))
	d := fraction(k.damp)
	base := rounded(quo(rounded(sub(whole(uint32(1)), d)), n))
	return rounded(add(base, rounded(mul(d, rounded(add(rounded(came), rounded(quo(rounded(given), n))))))))
}

// pages tells PageRank's rounds.
func (k kernel) pages() (all []told) {
	degree := k.degrees()
	rank := make([]*big.Rat, k.n)
	for v := range rank {
		rank[v] = rounded(quo(whole(uint32(1)), rounded(whole(k.n))))
	}
	for round := 1; round <= k.rounds; round++ {
		given := new(big.Rat)
		came := make([]*big.Rat, k.n)
		for v := range came {
			came[v] = new(big.Rat)
			if degree[v] == 0 {
				given.Add(given, rank[v])
			}
		}
		for _, e := range k.edges {
			came[e.Dst].Add(came[e.Dst], rounded(quo(rank[e.Src], rounded(whole(degree[e.Src])))))
		}
		now := told{updates: uint64(len(k.edges))}
		next := new(big.Rat)
		for v := range rank {
			last := rank[v]
			rank[v] = k.newRank(came[v], given)
			if rank[v].Cmp(last) != 0 {
				now.changed++
			}
			if degree[v] == 0 {
				next.Add(next, rank[v])
			}
			now.states = append(now.states, api.State{6: uint64(near(rank[v])), 7: degree[v]})
		}
		now.agg = sumOf(next)
		all = append(all, now)
		if now.changed == 0 {
			break
		}
	}
	return all
}

// weight tells an edge's weight.
func (k kernel) weight(e api.Edge) *big.Rat {
	switch k.kind {
	case api.ECounted:
		return rounded(new(big.Rat).SetInt64(int64(int32(e.W))))
	case api.EReal:
		return fraction(e.W)
	}
	return whole(uint32(1))
}

// unit tells the vector's number of a vertex.
func (k kernel) unit(v uint32) *big.Rat {
	return big.NewRat(int64(mixed(k.seed, v)>>40), 1<<24)
}

// products tells SpMV's round.
func (k kernel) products() []told {
	sums := make([]*big.Rat, k.n)
	for v := range sums {
		sums[v] = new(big.Rat)
	}
	for _, e := range k.edges {
		sums[e.Dst].Add(sums[e.Dst], rounded(mul(k.weight(e), k.unit(e.Src))))
	}
	now := told{updates: uint64(len(k.edges))}
	for v, sum := range sums {
		if sum.Sign() != 0 {
			now.changed++
		}
		now.states = append(now.states, api.State{6: uint64(near(k.unit(uint32(v)))), 7: uint64(near(sum))})
	}
	return []told{now}
}

// borders tells Conductance's round.
func (k kernel) borders() []told {
	inside := func(v uint32) bool { return mixed(k.seed, v)%2 == 1 }
	var now told
	for v, degree := range k.degrees() {
		now.states = append(now.states, api.State{1: degree})
		if inside(uint32(v)) {
			now.agg[1] += degree
		} else {
			now.agg[2] += degree
		}
	}
	for _, e := range k.edges {
		if inside(e.Src) != inside(e.Dst) {
			now.states[e.Dst][0]++
			now.agg[0]++
			now.updates++
		}
	}
	for _, s := range now.states {
		if s[0] > 0 {
			now.changed++
		}
	}
	return []told{now}
}

// registers are the numbers of a register set.
type registers [16]uint64

func (r registers) word() (set uint64) {
	for _, x := range slices.Backward(r[:]) {
		set = set*16 + x
	}
	return set
}

// size tells about how many vertices a set stands for.
func (r registers) size() uint32 {
	sum := new(big.Rat)
	for _, x := range r {
		sum.Add(sum, big.NewRat(1, 1<<x))
	}
	return near(quo(rounded(big.NewRat(172288, 1000)), rounded(sum)))
}

// single tells the numbers of a vertex by itself.
func single(z uint64) (r registers) {
	n := uint64(1)
	for rest := z / 16; rest%2 == 0 && n < 15; rest /= 2 {
		n++
	}
	r[z%16] = n
	return r
}

// steps tells the fewest edges from each vertex to each, 0 to itself, n or more where no way leads.
func (k kernel) steps() [][]int {
	far := int(k.n) + 1
	l := make([][]int, k.n)
	for u := range l {
		l[u] = slices.Repeat([]int{far}, int(k.n))
		l[u][u] = 0
	}
	for _, e := range k.edges {
		l[e.Src][e.Dst] = min(l[e.Src][e.Dst], 1)
	}
	for m := range l {
		for u := range l {
			for v := range l {
				l[u][v] = min(l[u][v], l[u][m]+l[m][v])
			}
		}
	}
	return l
}

// within tells all sets behind so many rounds: the greatest numbers of all that lead there in as many steps.
func (k kernel) within(steps [][]int, round int) []registers {
	l := make([]registers, k.n)
	for u := range steps {
		own := single(mixed(k.seed, uint32(u)))
		for v, far := range steps[u] {
			if far > round || far > int(k.n) {
				continue
			}
			for i := range own {
				l[v][i] = max(l[v][i], own[i])
			}
		}
	}
	return l
}

// balls tells HyperANF's rounds.
func (k kernel) balls() (all []told) {
	degree := k.degrees()
	steps := k.steps()
	last := k.within(steps, 0)
	sends := uint64(len(k.edges))
	for round := 1; round <= k.rounds; round++ {
		now := told{updates: sends}
		sends = 0
		sum := new(big.Rat)
		next := k.within(steps, round)
		for v := range next {
			if next[v] != last[v] {
				now.changed++
				sends += degree[v]
			}
			sum.Add(sum, fraction(next[v].size()))
			now.states = append(now.states, api.State{next[v].word()})
		}
		now.agg = sumOf(sum)
		all = append(all, now)
		if now.changed == 0 {
			break
		}
		last = next
	}
	return all
}

// mixed is P15.1's Mix once more, by numbers without bounds.
func mixed(seed uint64, v uint32) uint64 {
	around := new(big.Int).Lsh(big.NewInt(1), 64)
	number := func(s string) *big.Int {
		x, _ := new(big.Int).SetString(s, 16)
		return x
	}
	down := func(z *big.Int, n uint) *big.Int { return new(big.Int).Xor(z, new(big.Int).Rsh(z, n)) }
	times := func(z *big.Int, s string) *big.Int {
		return new(big.Int).Mod(new(big.Int).Mul(z, number(s)), around)
	}
	z := times(big.NewInt(int64(v)+1), "9E3779B97F4A7C15")
	z.Add(z, new(big.Int).SetUint64(seed)).Mod(z, around)
	z = times(down(z, 30), "BF58476D1CE4E5B9")
	z = times(down(z, 27), "94D049BB133111EB")
	return down(z, 31).Uint64()
}

// seedFor tells the seed that mixes a vertex to a number: Mix loses nothing.
func seedFor(z uint64, v uint32) uint64 {
	inverse := func(x uint64) uint64 { // of an odd number, modulo 2^64
		y := x
		for range 6 {
			y *= 2 - x*y
		}
		return y
	}
	up := func(z uint64, n int) uint64 {
		x := z
		for range 3 {
			x = z ^ x>>n
		}
		return x
	}
	z = up(z, 31)
	z = up(z*inverse(0x94d049bb133111eb), 27)
	z = up(z*inverse(0xbf58476d1ce4e5b9), 30)
	return z - (uint64(v)+1)*0x9e3779b97f4a7c15
}

// stats tells those of a run that had these rounds.
func (k kernel) stats(rounds []told) (s api.Stats) {
	for _, r := range rounds {
		s.Rounds++
		s.Edges += uint64(len(k.edges))
		s.Updates += r.updates
		s.Changed += r.changed
	}
	return s
}

// watched is a program whose states are written down, and looked at together with the aggregate behind each round.
type watched struct {
	api.Program
	states []api.State
	look   func(round int, states []api.State, agg api.State, changed uint64, done bool)
}

func (w *watched) Apply(c api.Ctl, agg api.State, v uint32, s api.State) (api.State, bool, api.Errno) {
	next, changed, e := w.Program.Apply(c, agg, v, s)
	w.states[v] = next
	return next, changed, e
}

func (w *watched) Turn(c api.Ctl, agg api.State, changed uint64, round int) (api.Ctl, bool, api.Errno) {
	next, done, e := w.Program.Turn(c, agg, changed, round)
	w.look(round, w.states, agg, changed, done)
	return next, done, e
}

// run makes the kernel's rounds in memory, with no room for one more than the chapter says; each of them is held against the chapter.
func (k kernel) run(t *testing.T) ([]api.State, api.Stats, api.State) {
	t.Helper()
	want := k.want()
	var last api.State
	w := &watched{Program: k.ranker(t), states: make([]api.State, k.n)}
	w.look = func(round int, states []api.State, agg api.State, changed uint64, done bool) {
		t.Helper()
		r := want[round-1]
		if last = agg; agg != r.agg || changed != r.changed || done != (round == len(want)) {
			t.Fatalf("%s behind round %d: %v, %d changed, done %v, want %v, %d, %v: %+v", k.name, round, agg, changed, done, r.agg, r.changed, round == len(want), k)
		}
		for v, s := range states {
			if k.shown(s) != r.states[v] {
				t.Fatalf("%s behind round %d: vertex %d is %x, want %x: %+v", k.name, round, v, s, r.states[v], k)
			}
		}
	}
	states, stats, e := wheel.Memory(k.n, false, k.edges, w, len(want), 1)
	if e != api.OK || stats != k.stats(want) {
		t.Fatalf("%s: %v %d, want %v: %+v", k.name, stats, e, k.stats(want), k)
	}
	return states, stats, last
}

// between tells edges by their ends, two and two.
func between(ends ...uint32) (l []api.Edge) {
	for i := 0; i+1 < len(ends); i += 2 {
		l = append(l, api.Edge{Src: ends[i], Dst: ends[i+1]})
	}
	return l
}

// weighed tells edges that all lead the same way.
func weighed(src, dst uint32, ws ...uint32) (l []api.Edge) {
	for _, w := range ws {
		l = append(l, api.Edge{Src: src, Dst: dst, W: w})
	}
	return l
}

// shuffled tells the same edges in another order.
func shuffled(rnd *rand.Rand, edges []api.Edge) []api.Edge {
	edges = slices.Clone(edges)
	rnd.Shuffle(len(edges), func(i, j int) { edges[i], edges[j] = edges[j], edges[i] })
	return edges
}

// anyWeight tells a W of that kind, often one at a bound.
func anyWeight(rnd *rand.Rand, kind api.EdgeKind) uint32 {
	switch kind {
	case api.ECounted:
		return []uint32{0, 1, math.MaxUint32, 1<<24 + 1, 1 << 31, 1<<31 - 1, rnd.Uint32N(9), rnd.Uint32()}[rnd.IntN(8)]
	case api.EReal:
		w := []uint32{0, 1, 0x3f800000, 0x7f7fffff, 0x00800000, 0x007fffff, rnd.Uint32N(1 << 24), 0x7f000000 + rnd.Uint32N(1<<23), 0x3f000000 + rnd.Uint32N(1<<24), rnd.Uint32N(0x7f800000)}[rnd.IntN(10)]
		return w | uint32(rnd.IntN(2))<<31
	}
	return 0
}

// anyEdges tells edges among n vertices: none, few, many, a way through all, to few or from few of them; with loops, some of them several times, some with weights that cancel.
func anyEdges(rnd *rand.Rand, n uint32, kind api.EdgeKind) (edges []api.Edge) {
	most := []int{0, 1, int(n), int(n) * 2, int(n) * 5}[rnd.IntN(5)]
	from, to := 1+rnd.Uint32N(n), 1+rnd.Uint32N(n)
	for range rnd.IntN(most + 1) {
		edges = append(edges, api.Edge{Src: rnd.Uint32N(from), Dst: n - 1 - rnd.Uint32N(to), W: anyWeight(rnd, kind)})
	}
	if rnd.IntN(4) == 0 {
		order := rnd.Perm(int(n))
		for i := 1; i < len(order); i++ {
			edges = append(edges, api.Edge{Src: uint32(order[i-1]), Dst: uint32(order[i]), W: anyWeight(rnd, kind)})
		}
	}
	for range rnd.IntN(4) {
		v := rnd.Uint32N(n)
		edges = append(edges, api.Edge{Src: v, Dst: v, W: anyWeight(rnd, kind)})
		e := edges[rnd.IntN(len(edges))]
		edges = append(edges, e, e)
		if kind == api.EReal {
			edges[len(edges)-1].W ^= 1 << 31
		}
	}
	return shuffled(rnd, edges)
}

// anyKernel tells a kernel over a graph at random, of at most so many vertices.
func anyKernel(rnd *rand.Rand, name string, most uint32) kernel {
	k := kernel{name: name, n: 1 + rnd.Uint32N(most), kind: api.EPlain + api.EdgeKind(rnd.IntN(3)), seed: rnd.Uint64()}
	k.edges = anyEdges(rnd, k.n, k.kind)
	k.damp = []uint32{1, 0x3f000000, 0x3f59999a, 0x3f7fffff, 1 + rnd.Uint32N(0x3f7fffff), 0x3f000000 + rnd.Uint32N(0x800000)}[rnd.IntN(6)]
	k.rounds = []int{1, 2, 1 + rnd.IntN(12), api.MaxRanked}[rnd.IntN(4)]
	if name == "pages" {
		k.rounds = 1 + rnd.IntN(12)
	}
	return k
}

// anyWord tells a word, often one that means something, or one at a bound.
func anyWord(rnd *rand.Rand) uint64 {
	if rnd.IntN(4) == 0 {
		return rnd.Uint64()
	}
	return []uint64{0, 1, 2, 15, 16, 1<<24 + 1, 0x3f800000, 0x7f7fffff, 0x80000001, math.MaxUint32, 1 << 32, 1<<63 - 1, 1 << 63, math.MaxUint64}[rnd.IntN(14)]
}

func anyState(rnd *rand.Rand) (s api.State) {
	for i := range s {
		s[i] = anyWord(rnd)
	}
	return s
}
