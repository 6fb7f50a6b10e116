package mill_test

import (
	"math"
	"math/big"
	"math/bits"
	"slices"
	"strconv"
	"strings"
	"testing"

	"sluice/api"
)

// What stands here reads what the kernels mean, over lists of edges, by no rounds but those that the meaning itself has.

const far = 1 << 30

// told is what a job tells.
type told struct {
	rows  []string
	tells [2]uint64
}

// model reads what a world's job means.
func (w world) model(t testing.TB) told {
	t.Helper()
	switch w.kernel {
	case "bfs":
		return w.hops([]uint32{uint32(w.number("source", "0"))}, true)
	case "reach":
		return w.hops(w.sources(), false)
	case "wcc":
		return w.labels()
	case "sssp":
		return w.distances()
	case "mis", "colour":
		return w.firsts()
	case "kcore":
		return w.cores()
	case "pagerank":
		return w.ranks()
	case "spmv":
		return w.products()
	case "conductance":
		return w.crossings()
	case "anf":
		return w.balls()
	case "scc":
		return w.knots()
	case "topo":
		return w.levels()
	case "twocolour":
		return w.colours()
	}
	t.Fatal(w.kernel)
	return told{}
}

func (w world) sources() (l []uint32) {
	for _, word := range strings.Split(w.value("sources", "0"), " ") {
		n, _ := strconv.Atoi(word)
		l = append(l, uint32(n))
	}
	return l
}

// steps tells the fewest edges of a way from each vertex to each, none from one to itself; far or more, if there is none.
func (w world) steps(both bool) [][]int {
	l := make([][]int, w.n)
	for u := range l {
		l[u] = slices.Repeat([]int{far}, int(w.n))
	}
	for _, e := range w.edges {
		l[e.Src][e.Dst] = 1
		if both {
			l[e.Dst][e.Src] = 1
		}
	}
	for v := range l {
		l[v][v] = 0
	}
	for m := range l {
		for u := range l {
			for v := range l {
				l[u][v] = min(l[u][v], l[u][m]+l[m][v])
			}
		}
	}
	return l
}

func number(n int) string { return strconv.Itoa(n) }

// hops: levels with the least parent, or with the least source.
func (w world) hops(sources []uint32, parents bool) (l told) {
	steps := w.steps(false)
	level := func(v uint32) int {
		least := far
		for _, s := range sources {
			least = min(least, steps[s][v])
		}
		return least
	}
	for v := range w.n {
		if level(v) >= far {
			l.rows = append(l.rows, "-")
			continue
		}
		from := uint32(math.MaxUint32)
		for _, s := range sources {
			if !parents && steps[s][v] == level(v) || s == v {
				from = min(from, s)
			}
		}
		for _, e := range w.edges {
			if parents && e.Dst == v && level(e.Src)+1 == level(v) {
				from = min(from, e.Src)
			}
		}
		l.rows = append(l.rows, number(level(v))+" "+number(int(from)))
		l.tells[0]++
		l.tells[1] = max(l.tells[1], uint64(level(v)))
	}
	return l
}

// leasts tells, of each vertex, the least that is near.
func leasts(steps [][]int) (l []int) {
	for v := range steps {
		l = append(l, slices.IndexFunc(steps[v], func(d int) bool { return d < far }))
	}
	return l
}

func (w world) labels() (l told) {
	for v, least := range leasts(w.steps(true)) {
		l.rows = append(l.rows, number(least))
		if v == least {
			l.tells[0]++
		}
	}
	return l
}

func (w world) knots() (l told) {
	steps := w.steps(false)
	for u := range steps {
		for v := range u {
			steps[u][v] = max(steps[u][v], steps[v][u])
			steps[v][u] = steps[u][v]
		}
	}
	for _, least := range leasts(steps) {
		l.rows = append(l.rows, number(least))
	}
	return l
}

// distances: ways of at most n edges, and whether one more makes one shorter.
func (w world) distances() (l told) {
	const none = math.MaxInt64
	d := slices.Repeat([]int64{none}, int(w.n))
	d[w.number("source", "0")] = 0
	shortened := true
	for range w.n {
		shortened = false
		for _, e := range w.edges {
			weight := int64(1)
			if w.kind == api.ECounted {
				weight = int64(int32(e.W))
			}
			if d[e.Src] != none && d[e.Src]+weight < d[e.Dst] {
				d[e.Dst], shortened = d[e.Src]+weight, true
			}
		}
	}
	if shortened {
		return told{rows: slices.Repeat([]string{"negative"}, int(w.n)), tells: [2]uint64{0, 1}}
	}
	for _, sum := range d {
		if sum == none {
			l.rows = append(l.rows, "-")
			continue
		}
		l.rows = append(l.rows, strconv.FormatInt(sum, 10))
		l.tells[0]++
	}
	return l
}

// order tells the vertices by the priorities that a seed gives them.
func (w world) order() []uint32 {
	n, seed := uint64(w.n), w.number("seed", "0")
	a := (seed >> 32) % n
	for n > 1 && new(big.Int).GCD(nil, nil, big.NewInt(int64(a)), big.NewInt(int64(n))).Int64() != 1 {
		a = (a + 1) % n
	}
	order := make([]uint32, n)
	for v := range n {
		order[(a*v+seed%n)%n] = uint32(v)
	}
	return order
}

// firsts: the first independent set, or the first colouring.
func (w world) firsts() (l told) {
	l.rows = make([]string, w.n)
	var ahead []uint32
	colours := make([]int, w.n)
	for _, v := range w.order() {
		isNear := func(u uint32) bool {
			return slices.ContainsFunc(w.edges, func(e api.Edge) bool { return e.Src == u && e.Dst == v || e.Src == v && e.Dst == u })
		}
		var taken []int
		set := "in"
		for _, u := range ahead {
			if isNear(u) {
				taken = append(taken, colours[u])
				if l.rows[u] == "in" {
					set = "out"
				}
			}
		}
		for slices.Contains(taken, colours[v]) {
			colours[v]++
		}
		l.rows[v] = set
		ahead = append(ahead, v)
	}
	if w.kernel == "colour" {
		for v := range colours {
			l.rows[v] = number(colours[v])
		}
	}
	return l
}

// cores: of each k, what is left when again and again vertices with fewer edges are taken away.
func (w world) cores() (l told) {
	core := make([]int, w.n)
	for k := 1; k <= 2*len(w.edges); k++ {
		left := slices.Repeat([]bool{true}, int(w.n))
		for again := true; again; {
			again = false
			degree := make([]int, w.n)
			for _, e := range w.edges {
				if e.Src != e.Dst && left[e.Src] && left[e.Dst] {
					degree[e.Src]++
					degree[e.Dst]++
				}
			}
			for v := range left {
				if left[v] && degree[v] < k {
					left[v], again = false, true
				}
			}
		}
		for v := range left {
			if left[v] {
				core[v] = k
			}
		}
	}
	for _, k := range core {
		l.rows = append(l.rows, number(k))
	}
	return l
}

// real tells a float32 as rows do.
func real(x float32) string {
	switch {
	case math.IsInf(float64(x), 1):
		return "inf"
	case math.IsInf(float64(x), -1):
		return "-inf"
	}
	return strconv.FormatFloat(float64(x), 'e', 8, 32)
}

// exactly adds up, and rounds once.
func exactly(xs ...float32) float32 {
	sum := new(big.Float).SetPrec(600)
	for _, x := range xs {
		sum.Add(sum, big.NewFloat(float64(x)))
	}
	x, _ := sum.Float32()
	return x
}

// ranks: by the meaning's own rounds, each rank out of those of the round ahead.
func (w world) ranks() (l told) {
	text := w.value("damp", "0.85")
	if text == "0x1.8p-1" {
		text = "0.75"
	}
	read, _ := strconv.ParseFloat(text, 32)
	d, n := float32(read), float32(w.n)
	b := float32(1-d) / n
	out := make([]int, w.n)
	for _, e := range w.edges {
		out[e.Src]++
	}
	var rank func(round int) []float32
	rank = func(round int) []float32 {
		if round == 0 {
			return slices.Repeat([]float32{1 / n}, int(w.n))
		}
		old := rank(round - 1)
		var idle []float32
		for v, x := range old {
			if out[v] == 0 {
				idle = append(idle, x)
			}
		}
		g := exactly(idle...) / n
		next := make([]float32, w.n)
		for v := range next {
			var come []float32
			for _, e := range w.edges {
				if int(e.Dst) == v {
					come = append(come, old[e.Src]/float32(out[e.Src]))
				}
			}
			inner := exactly(come...) + g
			damped := d * inner
			next[v] = b + damped
		}
		return next
	}
	for _, x := range rank(int(w.number("rounds", "20"))) {
		l.rows = append(l.rows, real(x))
	}
	return l
}

func stirred(seed uint64, v uint32) uint64 {
	z := seed + (uint64(v)+1)*0x9e3779b97f4a7c15
	z = (z ^ z>>30) * 0xbf58476d1ce4e5b9
	z = (z ^ z>>27) * 0x94d049bb133111eb
	return z ^ z>>31
}

func (w world) products() (l told) {
	seed := w.number("seed", "0")
	for v := range w.n {
		var come []float32
		for _, e := range w.edges {
			if e.Dst != v {
				continue
			}
			weight := map[api.EdgeKind]float32{api.EPlain: 1, api.ECounted: float32(int32(e.W)), api.EReal: math.Float32frombits(e.W)}[w.kind]
			come = append(come, weight*float32(math.Ldexp(float64(stirred(seed, e.Src)>>40), -24)))
		}
		l.rows = append(l.rows, real(exactly(come...)))
	}
	return l
}

func (w world) crossings() (l told) {
	isInside := func(v uint32) bool { return stirred(w.number("seed", "0"), v)&1 == 1 }
	cross := make([]int, w.n)
	inside, outside := 0, 0
	for _, e := range w.edges {
		if isInside(e.Src) != isInside(e.Dst) {
			cross[e.Dst]++
			l.tells[0]++
		}
		if isInside(e.Src) {
			inside++
		} else {
			outside++
		}
	}
	for _, n := range cross {
		l.rows = append(l.rows, number(n))
	}
	if fewer := min(inside, outside); fewer > 0 {
		l.tells[1] = uint64(math.Float32bits(float32(l.tells[0]) / float32(fewer)))
	}
	return l
}

// balls: of each vertex the greatest numbers of all that are so near.
func (w world) balls() (l told) {
	steps := w.steps(false)
	rounds, seed := int(w.number("rounds", "10")), w.number("seed", "0")
	var sizes []float32
	for v := range w.n {
		var set [16]int
		for u := range w.n {
			if steps[u][v] <= rounds {
				z := stirred(seed, u)
				at := z % 16
				set[at] = max(set[at], min(15, 1+bits.TrailingZeros64(z>>4)))
			}
		}
		var parts []float32
		for _, r := range set {
			parts = append(parts, float32(math.Ldexp(1, -r)))
		}
		sizes = append(sizes, float32(172.288)/exactly(parts...))
		l.rows = append(l.rows, real(sizes[v]))
	}
	l.tells[0] = uint64(math.Float32bits(exactly(sizes...)))
	return l
}

// levels: the longest way that leads to each vertex.
func (w world) levels() (l told) {
	steps := w.steps(false)
	known := map[uint32]int{}
	var level func(v uint32) int
	level = func(v uint32) (most int) {
		if most, is := known[v]; is {
			return most
		}
		defer func() { known[v] = most }()
		for _, e := range w.edges { // an edge on a cycle from which a way leads here
			if steps[e.Dst][e.Src] < far && steps[e.Src][v] < far {
				return -1
			}
		}
		for _, e := range w.edges {
			if e.Dst == v {
				most = max(most, 1+level(e.Src))
			}
		}
		return most
	}
	for v := range w.n {
		row := number(level(v))
		if level(v) < 0 {
			row = "-"
			l.tells[0]++
		}
		l.rows = append(l.rows, row)
	}
	return l
}

func (w world) colours() (l told) {
	steps := w.steps(true)
	least := leasts(steps)
	for v := range steps {
		row := number(steps[least[v]][v] % 2)
		if slices.ContainsFunc(w.edges, func(e api.Edge) bool {
			at := least[v]
			return least[e.Src] == at && steps[at][e.Src]%2 == steps[at][e.Dst]%2
		}) {
			row = "-"
			l.tells[0]++
		}
		l.rows = append(l.rows, row)
	}
	return l
}
