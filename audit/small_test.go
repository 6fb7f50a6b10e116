package audit_test

import (
	"math/rand/v2"
	"testing"

	"sluice/api"
)

// counter goes through all numbers of so many digits, each below its bound.
func counter(bounds []int, see func(digits []int)) {
	digits := make([]int, len(bounds))
	for {
		see(digits)
		i := 0
		for ; i < len(digits); i++ {
			if digits[i]++; digits[i] < bounds[i] {
				break
			}
			digits[i] = 0
		}
		if i == len(digits) {
			return
		}
	}
}

// choices tells the words that are tried at each place of a state that is looked at.
func choices(k kernel) [][]uint64 {
	n := uint64(k.n)
	switch k.name {
	case "Levels", "Reached":
		return [][]uint64{numbers(n+1, none), numbers(n+1, none)}
	case "Distances":
		return [][]uint64{{0, 1, 2, less(1), api.Endless}, {0, 1}, {0, 1, 2}}
	case "Cores":
		return [][]uint64{numbers(uint64(len(k.edges))+1, none)}
	}
	return [][]uint64{numbers(n+2, none)}
}

// numbers tells those below a bound, and more.
func numbers(bound uint64, more ...uint64) (l []uint64) {
	for x := range bound {
		l = append(l, x)
	}
	return append(l, more...)
}

// holdAll holds the verdict on all states against what a result is, and against the rules.
func holdAll(t *testing.T, k kernel) (rights int) {
	t.Helper()
	judge, isResult := k.model(t), k.meaning(t)
	words := faceOf(k.name).words
	tried := choices(k)
	var bounds []int
	for range k.n {
		for i := range words {
			bounds = append(bounds, len(tried[i]))
		}
	}
	states := make([]api.State, k.n)
	counter(bounds, func(digits []int) {
		for i, digit := range digits {
			states[i/len(words)][words[i%len(words)]] = tried[i%len(words)][digit]
		}
		got := k.verdict(t, states)
		if want := verdictOf(judge(states)); got != want || got.Right != isResult(states) {
			t.Fatalf("P18.2: %+v of %d: %+v, the model says %+v, a result: %v", k, states, got, want, isResult(states))
		}
		if got.Right {
			rights++
		}
	})
	return rights
}

// smallNames are the functions whose results are small numbers.
var smallNames = []string{"Levels", "Reached", "Labels", "Distances", "Independent", "Coloured", "Cores", "Sccs", "TopoLevels", "TwoColours"}

// P18.2: all states of all graphs of two vertices, with up to one edge from each to each, and some twice.
func TestAllOfTwo(t *testing.T) {
	for _, name := range smallNames {
		for graph := range 32 {
			k := kernelOf(name, 2)
			for i := range 4 {
				if graph>>i&1 == 1 {
					k.edges = append(k.edges, between(uint32(i/2), uint32(i%2))...)
				}
			}
			if graph >= 16 {
				k.edges = append(k.edges, k.edges...)
			}
			for i := range k.edges {
				k.edges[i].W = []uint32{1, 0, less32(1), 1}[(i+graph)%4]
			}
			for source := range uint32(2) {
				k.sources = []uint32{source}
				if rights := holdAll(t, k); rights < 1 || rights > 1 && name != "Distances" {
					t.Errorf("P18.2: %+v: %d states are right", k, rights)
				}
			}
		}
	}
}

// less32 tells the bits of -n.
func less32(n uint32) uint32 { return -n }

// P18.2: all states of some graphs of three vertices.
func TestAllOfThree(t *testing.T) {
	for i, name := range smallNames {
		rnd := rand.New(rand.NewPCG(uint64(i), 187))
		graphs := 200
		if faceOf(name).words[len(faceOf(name).words)-1] > 0 {
			graphs = 12
		}
		for range graphs {
			k := kernelOf(name, 3, anyEdges(rnd, 3)...)
			k.sources = []uint32{rnd.Uint32N(3)}
			if name == "Reached" && rnd.IntN(2) == 0 {
				k.sources = append(k.sources, rnd.Uint32N(3))
			}
			k.order = []api.Rank{{N: 3, A: 1}, {N: 3, A: 2}, {N: 3, A: 1, C: 2}, {N: 3, A: 2, C: 1}}[rnd.IntN(4)]
			for i := range k.edges {
				k.edges[i].W = []uint32{1, 0, less32(1), 1, 1}[rnd.IntN(5)]
			}
			if rights := holdAll(t, k); rights < 1 && name != "Distances" {
				t.Errorf("P18.2: %+v: no states are right", k)
			}
		}
	}
}
