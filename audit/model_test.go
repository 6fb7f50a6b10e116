package audit_test

import (
	"cmp"
	"math/big"
	"slices"
	"testing"

	"sluice/api"
)

// What stands here reads the chapters' words as they are, over lists of edges that are gone through again for each vertex, and by no rounds.

// broken is a rule that is broken at a vertex.
type broken struct {
	vertex uint32
	rule   int
}

// model tells, of states, all rules that are broken, the least vertex first, and of each its least rule first.
type model func(s []api.State) []broken

// verdictOf tells the verdict that the chapter asks for.
func verdictOf(l []broken) api.Verdict {
	if len(l) == 0 {
		return right
	}
	return api.Verdict{Vertex: l[0].vertex, Rule: l[0].rule}
}

// list asks all vertices for all rules.
func (k kernel) list(rules ...func(v uint32) bool) (l []broken) {
	for v := range k.n {
		for i, isBroken := range rules {
			if isBroken(v) {
				l = append(l, broken{v, i + 1})
			}
		}
	}
	return l
}

// some tells whether there is an edge to v that is such.
func (k kernel) some(v uint32, isSuch func(e api.Edge) bool) bool {
	return slices.ContainsFunc(k.edges, func(e api.Edge) bool { return e.Dst == v && isSuch(e) })
}

// model makes what reads the function's rules.
func (k kernel) model(t testing.TB) model {
	switch k.name {
	case "Levels", "Reached":
		return k.levelRules
	case "Distances":
		return k.distanceRules()
	case "Independent":
		return k.setRules
	case "Coloured":
		return k.colourRules
	case "Sccs":
		return k.knotRules
	case "TopoLevels":
		return k.topoRules
	}
	return k.wordRule(t)
}

// wordRule reads a rule that asks for one word, which is the result's.
func (k kernel) wordRule(t testing.TB) model {
	at := faceOf(k.name).words[0]
	want := k.want(t)
	return func(s []api.State) []broken {
		return k.list(func(v uint32) bool { return s[v][at] != want[v] })
	}
}

func (k kernel) levelRules(s []api.State) []broken {
	n := uint64(k.n)
	isLevel := func(v uint32) bool { return s[v][0] < n }
	isBelow := func(v uint32) func(e api.Edge) bool {
		return func(e api.Edge) bool { return isLevel(e.Src) && s[e.Src][0]+1 == s[v][0] }
	}
	one := func(v uint32) bool {
		if slices.Contains(k.sources, v) {
			return s[v][0] != 0 || s[v][1] != uint64(v)
		}
		return s[v][0] == 0 || s[v][0] >= n && s[v][0] != none || s[v][0] == none && s[v][1] != none || s[v][0] < n && s[v][1] >= n
	}
	two := func(v uint32) bool {
		return k.some(v, func(e api.Edge) bool { return isLevel(e.Src) && s[v][0] > s[e.Src][0]+1 })
	}
	three := func(v uint32) bool { return isLevel(v) && s[v][0] > 0 && !k.some(v, isBelow(v)) }
	four := func(v uint32) bool {
		var from []uint64
		for _, e := range k.edges {
			if e.Dst == v && isBelow(v)(e) {
				handed := uint64(e.Src)
				if k.name == "Reached" {
					handed = s[e.Src][1]
				}
				from = append(from, handed)
			}
		}
		return isLevel(v) && s[v][0] > 0 && len(from) > 0 && s[v][1] != slices.Min(from)
	}
	return k.list(one, two, three, four)
}

// weight tells an edge's weight as Distances takes it.
func (k kernel) weight(e api.Edge) int64 {
	if k.kind == api.EPlain {
		return 1
	}
	return int64(int32(e.W))
}

func (k kernel) distanceRules() model {
	isCycle := k.isNegative()
	return func(s []api.State) []broken {
		source := k.sources[0]
		negative := s[source][1]
		one := func(v uint32) bool { return s[v][1] != negative || s[v][1] > 1 }
		if negative == 1 {
			return k.list(one, func(v uint32) bool { return v == source && !isCycle })
		}
		isReached := func(v uint32) bool { return s[v][0] != api.Endless }
		order := func(e api.Edge) int { // how the exact sum stands to the distance
			sum := new(big.Int).Add(big.NewInt(int64(s[e.Src][0])), big.NewInt(k.weight(e)))
			return sum.Cmp(big.NewInt(int64(s[e.Dst][0])))
		}
		two := func(v uint32) bool {
			return v == source && (s[v][0] != 0 || s[v][2] != 0) || !isReached(v) && s[v][2] != 0
		}
		three := func(v uint32) bool {
			return k.some(v, func(e api.Edge) bool { return isReached(e.Src) && order(e) < 0 })
		}
		four := func(v uint32) bool {
			return isReached(v) && v != source && !k.some(v, func(e api.Edge) bool {
				return isReached(e.Src) && s[e.Src][2] < s[v][2] && order(e) == 0
			})
		}
		return k.list(one, two, three, four)
	}
}

// priority tells a vertex's place in the order.
func (k kernel) priority(v uint32) uint64 {
	return (uint64(k.order.A)*uint64(v) + uint64(k.order.C)) % uint64(k.order.N)
}

// isAhead tells whether u is a neighbour of v with a lesser priority.
func (k kernel) isAhead(u, v uint32) bool {
	return k.priority(u) < k.priority(v) && slices.ContainsFunc(k.edges, func(e api.Edge) bool {
		return e.Src == u && e.Dst == v || e.Src == v && e.Dst == u
	})
}

// someAhead tells whether a neighbour with a lesser priority has that word 0.
func (k kernel) someAhead(s []api.State, v uint32, word uint64) bool {
	for u := range k.n {
		if k.isAhead(u, v) && s[u][0] == word {
			return true
		}
	}
	return false
}

func (k kernel) setRules(s []api.State) []broken {
	return k.list(
		func(v uint32) bool { return s[v][0] != 0 && s[v][0] != 1 },
		func(v uint32) bool { return s[v][0] == 1 && k.someAhead(s, v, 1) },
		func(v uint32) bool { return s[v][0] == 0 && !k.someAhead(s, v, 1) },
	)
}

// colourRules: of numbers above 63 the first that no neighbour has lies within 65.
func (k kernel) colourRules(s []api.State) []broken {
	return k.list(
		func(v uint32) bool { return s[v][0] > 63 },
		func(v uint32) bool { return k.someAhead(s, v, s[v][0]) },
		func(v uint32) bool {
			for number := range min(s[v][0], 65) {
				if !k.someAhead(s, v, number) {
					return true
				}
			}
			return false
		},
	)
}

// knotRules: a label is left, if it can be come to from a cycle of labels.
func (k kernel) knotRules(s []api.State) []broken {
	n := uint64(k.n)
	within := k.edgesSuch(func(e api.Edge) bool { return s[e.Src][0] == s[e.Dst][0] })
	ways := within.steps(false)
	one := func(v uint32) bool { return s[v][0] > uint64(v) || s[s[v][0]][0] != s[v][0] }
	two := func(v uint32) bool {
		l := s[v][0]
		if l == uint64(v) {
			return false
		}
		return l >= n || s[l][0] != l || ways[l][v] >= far || ways[v][l] >= far
	}
	l := k.list(one, two)
	if len(l) > 0 {
		return l
	}
	labels := k.edgesSuch(func(e api.Edge) bool { return s[e.Src][0] != s[e.Dst][0] })
	for i, e := range labels.edges {
		labels.edges[i] = api.Edge{Src: uint32(s[e.Src][0]), Dst: uint32(s[e.Dst][0])}
	}
	ways = labels.steps(false)
	return k.list(never, never, func(v uint32) bool {
		l := s[v][0]
		for m := range ways {
			if ways[m][m] < far && (uint64(m) == l || ways[m][l] < far) {
				return true
			}
		}
		return false
	})
}

func never(uint32) bool { return false }

// edgesSuch tells the kernel with such edges alone.
func (k kernel) edgesSuch(isSuch func(e api.Edge) bool) kernel {
	k.edges = slices.DeleteFunc(slices.Clone(k.edges), func(e api.Edge) bool { return !isSuch(e) })
	return k
}

func (k kernel) topoRules(s []api.State) []broken {
	word := func(v uint32) uint64 { return s[v][0] }
	return k.list(
		func(v uint32) bool { return word(v) >= uint64(k.n) && word(v) != none },
		func(v uint32) bool {
			return k.some(v, func(e api.Edge) bool {
				u := word(e.Src)
				return u == none && word(v) != none || u != none && word(v) != none && !(word(v) > u)
			})
		},
		func(v uint32) bool {
			if word(v) == none {
				return !k.some(v, func(e api.Edge) bool { return word(e.Src) == none })
			}
			return word(v) > 0 && !k.some(v, func(e api.Edge) bool { return word(e.Src) == word(v)-1 })
		},
	)
}

// far is more edges than any way has that is asked for.
const far = 1 << 30

// steps tells the fewest edges, one at least, of a way from each vertex to each; far or more, if there is none.
func (k kernel) steps(both bool) [][]int {
	l := make([][]int, k.n)
	for u := range l {
		l[u] = slices.Repeat([]int{far}, int(k.n))
	}
	for _, e := range k.edges {
		l[e.Src][e.Dst] = 1
		if both {
			l[e.Dst][e.Src] = 1
		}
	}
	for m := range l {
		for u := range l {
			for v := range l {
				l[u][v] = min(l[u][v], l[u][m]+l[m][v])
			}
		}
	}
	return l
}

// stepsFrom is steps where a vertex is no edge away from itself.
func (k kernel) stepsFrom(both bool) [][]int {
	l := k.steps(both)
	for v := range l {
		l[v][v] = 0
	}
	return l
}

// lowest stands for all sums that are less, so that cycles below zero do not carry sums out of int64.
const lowest = -1 << 60

// sums tells the least sum of weights of a way from each vertex to each; Endless, if there is none. A vertex on a cycle below zero is less than 0 from itself.
func (k kernel) sums() [][]int64 {
	d := make([][]int64, k.n)
	for u := range d {
		d[u] = slices.Repeat([]int64{api.Endless}, int(k.n))
		d[u][u] = 0
	}
	for _, e := range k.edges {
		d[e.Src][e.Dst] = min(d[e.Src][e.Dst], k.weight(e))
	}
	for m := range d {
		for u := range d {
			for v := range d {
				if d[u][m] != api.Endless && d[m][v] != api.Endless {
					d[u][v] = min(d[u][v], max(d[u][m]+d[m][v], lowest))
				}
			}
		}
	}
	return d
}

// isNegative tells whether a cycle below zero can be reached from the source.
func (k kernel) isNegative() bool {
	d := k.sums()
	for v := range k.n {
		if d[k.sources[0]][v] != api.Endless && d[v][v] < 0 {
			return true
		}
	}
	return false
}

// meaning tells whether states are a result, by what chapters 13 to 16 say of it.
func (k kernel) meaning(t testing.TB) func(s []api.State) bool {
	switch k.name {
	case "Levels", "Reached":
		want := k.levels()
		return func(s []api.State) bool {
			return slices.EqualFunc(s, want, func(s api.State, w [2]uint64) bool { return [2]uint64(s[:2]) == w })
		}
	case "Distances":
		return k.isDistances()
	}
	at := faceOf(k.name).words[0]
	want := k.want(t)
	return func(s []api.State) bool {
		return slices.EqualFunc(s, want, func(s api.State, w uint64) bool { return s[at] == w })
	}
}

// levels tells the words 0 and 1 of BFS or Reach.
func (k kernel) levels() (l [][2]uint64) {
	steps := k.stepsFrom(false)
	level := func(v uint32) int {
		least := far
		for _, source := range k.sources {
			least = min(least, steps[source][v])
		}
		return least
	}
	for v := range k.n {
		now := [2]uint64{none, none}
		if level(v) < far {
			now[0] = uint64(level(v))
		}
		for u := range k.n {
			isFrom := k.some(v, func(e api.Edge) bool { return e.Src == u && level(u) < far && level(u)+1 == level(v) })
			if k.name == "Reached" {
				isFrom = slices.Contains(k.sources, u) && level(v) < far && steps[u][v] == level(v)
			}
			if isFrom || k.name == "Levels" && u == v && level(v) == 0 {
				now[1] = min(now[1], uint64(u))
			}
		}
		l = append(l, now)
	}
	return l
}

func (k kernel) isDistances() func(s []api.State) bool {
	negative, d := k.isNegative(), k.sums()[k.sources[0]]
	isDistance := func(s []api.State, v uint32) bool {
		if s[v][1] != 0 || int64(s[v][0]) != d[v] {
			return false
		}
		if v == k.sources[0] || d[v] == api.Endless {
			return s[v][2] == 0
		}
		return k.some(v, func(e api.Edge) bool {
			return d[e.Src] != api.Endless && d[e.Src]+k.weight(e) == d[v] && s[v][2] > s[e.Src][2]
		})
	}
	return func(s []api.State) bool {
		for v := range k.n {
			if negative && s[v][1] != 1 || !negative && !isDistance(s, v) {
				return false
			}
		}
		return true
	}
}

// want tells the word of a result that is looked at, of a function that looks at one; of layer 15 it is what the program ends with.
func (k kernel) want(t testing.TB) (words []uint64) {
	switch k.name {
	case "Labels":
		return k.leasts(k.stepsFrom(true))
	case "Sccs":
		steps := k.stepsFrom(false)
		for u := range steps {
			for v := range steps {
				steps[u][v] = max(steps[u][v], steps[v][u])
			}
		}
		return k.leasts(steps)
	case "Independent", "Coloured":
		return k.first()
	case "Cores":
		return k.cores()
	case "TopoLevels":
		return k.longest()
	case "TwoColours":
		return k.twoColours()
	}
	for _, s := range k.result(t) {
		words = append(words, s[faceOf(k.name).words[0]])
	}
	return words
}

// leasts tells, of each vertex, the least that is near.
func (k kernel) leasts(steps [][]int) (words []uint64) {
	for v := range steps {
		words = append(words, uint64(slices.IndexFunc(steps[v], func(d int) bool { return d < far })))
	}
	return words
}

// first tells the first independent set, or the first colouring; a colour above 63 is one that no result has.
func (k kernel) first() []uint64 {
	order := make([]uint32, k.n)
	for v := range k.n {
		order[k.priority(v)] = v
	}
	words := make([]uint64, k.n)
	for _, v := range order {
		var ahead []uint64
		for u := range k.n {
			if k.isAhead(u, v) {
				ahead = append(ahead, words[u])
			}
		}
		if k.name == "Independent" && !slices.Contains(ahead, 1) {
			words[v] = 1
		}
		for k.name == "Coloured" && slices.Contains(ahead, words[v]) {
			words[v]++
		}
	}
	return words
}

// cores asks all sets of vertices.
func (k kernel) cores() []uint64 {
	words := make([]uint64, k.n)
	for set := range uint64(1) << k.n {
		degree := make([]uint64, k.n)
		for _, e := range k.edges {
			if e.Src != e.Dst && set>>e.Src&1 == 1 && set>>e.Dst&1 == 1 {
				degree[e.Src]++
				degree[e.Dst]++
			}
		}
		least := uint64(none)
		for v := range k.n {
			if set>>v&1 == 1 {
				least = min(least, degree[v])
			}
		}
		for v := range k.n {
			if set>>v&1 == 1 {
				words[v] = max(words[v], least)
			}
		}
	}
	return words
}

// longest tells the most edges of a way that leads to each vertex.
func (k kernel) longest() (words []uint64) {
	steps := k.steps(false)
	known := map[uint32]uint64{}
	var level func(v uint32) uint64
	level = func(v uint32) (most uint64) {
		if most, ok := known[v]; ok {
			return most
		}
		defer func() { known[v] = most }()
		for u := range steps {
			if steps[u][u] < far && (u == int(v) || steps[u][v] < far) {
				return none
			}
		}
		for _, e := range k.edges {
			if e.Dst == v {
				most = max(most, 1+level(e.Src))
			}
		}
		return most
	}
	for v := range k.n {
		words = append(words, level(v))
	}
	return words
}

func (k kernel) twoColours() []uint64 {
	steps := k.stepsFrom(true)
	leasts := k.leasts(steps)
	words := make([]uint64, k.n)
	for v := range words {
		words[v] = uint64(steps[leasts[v]][v] % 2)
	}
	spoiled := map[uint64]int{}
	for _, e := range k.edges {
		if words[e.Src] == words[e.Dst] {
			spoiled[leasts[e.Src]]++
		}
	}
	for v := range words {
		if spoiled[leasts[v]] > 0 {
			words[v] = 2
		}
	}
	return words
}

// isSorted tells whether what a model has listed stands in its order.
func isSorted(l []broken) bool {
	return slices.IsSortedFunc(l, func(a, b broken) int {
		return cmp.Or(cmp.Compare(a.vertex, b.vertex), cmp.Compare(a.rule, b.rule))
	})
}
