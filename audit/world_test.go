package audit_test

import (
	"math/rand/v2"
	"slices"
	"testing"

	"sluice/api"
	"sluice/platter"
	"sluice/purse"
	"sluice/wheel"
)

// P18.2: what the programs of layers 13 to 16 end with is right, over graphs at random.
func TestResultsAreRight(t *testing.T) {
	for i, f := range faces {
		rnd := rand.New(rand.NewPCG(uint64(i), 181))
		for range 400 {
			k := anyKernel(rnd, f.name, []uint32{1, 3, 8, 40}[rnd.IntN(4)])
			if v := k.verdict(t, k.result(t)); v != right {
				t.Fatalf("P18.2: %+v: %+v", k, v)
			}
		}
	}
}

// P18.2: with one word turned that is looked at it is not; but word 2 of Distances may be another one, and where a cycle is below zero words 0 and 2 may be anything.
func TestOneWordTurned(t *testing.T) {
	for i, f := range faces {
		rnd := rand.New(rand.NewPCG(uint64(i), 182))
		for range 300 {
			k := anyKernel(rnd, f.name, 9)
			states := k.result(t)
			v, at := rnd.IntN(len(states)), f.words[rnd.IntN(len(f.words))]
			was := states[v][at]
			for states[v][at] == was {
				states[v][at] = []uint64{was + 1, was - 1, was ^ 1<<rnd.IntN(64), anyWord(rnd, k.n)}[rnd.IntN(4)]
			}
			isFree := k.name == "Distances" && (at == 2 || at == 0 && k.isNegative())
			got := k.verdict(t, states)
			if got.Right && !isFree || got.Right != k.meaning(t)(states) {
				t.Fatalf("P18.2: %+v: word %d of %d turned from %d to %d: %+v", k, at, v, was, states[v][at], got)
			}
		}
	}
}

// P18.2 to P18.16: the verdict is the one that the rules' own words ask for, and it is right just where the states are a result, of results with some words turned.
func TestVerdictsAgainstTheModel(t *testing.T) {
	for i, f := range faces {
		rnd := rand.New(rand.NewPCG(uint64(i), 183))
		rules, rights := map[int]int{}, 0
		for range 600 {
			k := anyKernel(rnd, f.name, 7)
			judge, isResult, result := k.model(t), k.meaning(t), k.result(t)
			for range 5 {
				states := shaken(rnd, k, result)
				want := verdictOf(judge(states))
				got := k.verdict(t, states)
				if got != want || got.Right != isResult(states) {
					t.Fatalf("P18.2: %+v of %d: %+v, the model says %+v, a result: %v", k, states, got, want, isResult(states))
				}
				rules[got.Rule]++
				if got.Right {
					rights++
				}
			}
		}
		if rights == 0 || rules[1] == 0 {
			t.Errorf("%s: these tests tell nothing: %d right, rules %v", f.name, rights, rules)
		}
	}
}

// P18.3 to P18.16: the verdict on words of all sorts.
func TestVerdictsOnAnyWords(t *testing.T) {
	for i, f := range faces {
		rnd := rand.New(rand.NewPCG(uint64(i), 184))
		for range 600 {
			k := anyKernel(rnd, f.name, 6)
			judge, isResult := k.model(t), k.meaning(t)
			small := rnd.IntN(2) == 0
			for range 5 {
				states := make([]api.State, k.n)
				for v := range states {
					for _, at := range f.words {
						if states[v][at] = anyWord(rnd, k.n); small {
							states[v][at] = []uint64{0, 1, uint64(v), rnd.Uint64N(uint64(k.n)), none, api.Endless}[rnd.IntN(6)]
						}
						if k.name == "Distances" && at == 1 && rnd.IntN(8) > 0 {
							states[v][at] = rnd.Uint64N(9) / 8
						}
					}
				}
				want := verdictOf(judge(states))
				if got := k.verdict(t, states); got != want || got.Right != isResult(states) {
					t.Fatalf("P18.2: %+v of %d: %+v, the model says %+v, a result: %v", k, states, got, want, isResult(states))
				}
			}
		}
	}
}

// P18.8: where the first colouring needs a colour above 63 no states are right: 65 vertices, each a neighbour of each.
func TestTooManyColours(t *testing.T) {
	for _, n := range []uint32{64, 65, 66} {
		k := kernelOf("Coloured", n)
		states := make([]api.State, n)
		for v := range n {
			states[v][0] = uint64(v)
			for u := range v {
				k.edges = append(k.edges, between(u, v)...)
			}
		}
		if n == 64 {
			if v := k.verdict(t, states); v != right {
				t.Errorf("P18.8: %+v", v)
			}
			continue
		}
		if v := k.verdict(t, states); v != wrong(64, 1) {
			t.Errorf("P18.8: %d vertices: %+v", n, v)
		}
		for colour := range uint64(64) {
			states[64][0] = colour
			if v := k.verdict(t, states); v != wrong(64, 2) {
				t.Errorf("P18.8: %d vertices, the colour %d twice: %+v", n, colour, v)
			}
		}
	}
}

// P18.2: the order of the edges does not show.
func TestOrderOfEdges(t *testing.T) {
	for i, f := range faces {
		rnd := rand.New(rand.NewPCG(uint64(i), 185))
		for range 100 {
			k := anyKernel(rnd, f.name, 12)
			states := shaken(rnd, k, k.result(t))
			want := k.verdict(t, states)
			k.edges = slices.Clone(k.edges)
			for range 3 {
				rnd.Shuffle(len(k.edges), func(i, j int) { k.edges[i], k.edges[j] = k.edges[j], k.edges[i] })
				if got := k.verdict(t, states); got != want {
					t.Fatalf("P0.3: %+v of %d: %+v and %+v", k, states, got, want)
				}
			}
		}
	}
}

// shapes tells graphs that take many passes, or are of a kind of their own, of n vertices.
func shapes(n uint32) map[string][]api.Edge {
	var way, back, star, all []api.Edge
	for v := uint32(1); v < n; v++ {
		way = append(way, between(v-1, v)...)
		back = append(back, between(n-v, n-v-1)...)
		star = append(star, between(0, v)...)
		all = append(all, between(v/2, v, v, v/3)...)
	}
	against := slices.Clone(way)
	slices.Reverse(against)
	return map[string][]api.Edge{
		"no edges":          nil,
		"a way":             way,
		"a way against":     against,
		"a way downwards":   back,
		"there and back":    slices.Concat(way, back),
		"a ring":            append(slices.Clone(against), between(n-1, 0)...),
		"a star":            star,
		"ways and rings":    all,
		"a way with a loop": append(slices.Clone(against), between(0, 0)...),
	}
}

// P18.2: results over graphs that take many passes are right, and one word turned at the last vertex is told.
func TestShapes(t *testing.T) {
	const n = 150
	for _, f := range faces {
		for name, edges := range shapes(n) {
			k := kernelOf(f.name, n, edges...)
			k.sources = []uint32{3}
			if k.kind == api.ECounted && f.name == "Distances" {
				for i := range k.edges {
					k.edges[i].W = 0
				}
			}
			states := k.result(t)
			if v := k.verdict(t, states); v != right {
				t.Errorf("P18.2: %s over %s: %+v", f.name, name, v)
			}
			states[n-1][f.words[0]] ^= 1 << 40
			if v := k.verdict(t, states); v.Right || v.Vertex > n-1 {
				t.Errorf("P18.2: %s over %s, with a word turned: %+v", f.name, name, v)
			}
		}
	}
}

// P18.6: a cycle below zero that is found only by going round it often, and one that carries sums far down.
func TestLongCycles(t *testing.T) {
	for _, n := range []uint32{2, 3, 50, 200} {
		for _, down := range []int64{0, 1} {
			k := kernelOf("Distances", n)
			for v := range n {
				w := int64(1)
				if v == n-1 {
					w = -int64(n) + 1 - down
				}
				k.edges = append(k.edges, weighed(int64((v+1)%n), int64((v+2)%n), w)...)
			}
			states := slices.Repeat([]api.State{{1, 1, 1}}, int(n))
			want := right
			if down == 0 {
				want = wrong(0, 2)
			}
			if v := k.verdict(t, states); v != want {
				t.Errorf("P18.6: a ring of %d, %d below zero: %+v", n, down, v)
			}
			slices.Reverse(k.edges)
			if v := k.verdict(t, states); v != want {
				t.Errorf("P18.6: a ring of %d, %d below zero, reversed: %+v", n, down, v)
			}
		}
		k := kernelOf("Distances", n)
		for v := range n {
			k.edges = append(k.edges, weighed(int64(v), int64((v+1)%n), -1<<31)...)
		}
		if v := k.verdict(t, slices.Repeat([]api.State{{0, 1}}, int(n))); v != right {
			t.Errorf("P18.6: a ring of %d, as low as can be: %+v", n, v)
		}
	}
}

// Edges come from a volume, results from a run on it.
func TestOnAVolume(t *testing.T) {
	for i, f := range faces {
		rnd := rand.New(rand.NewPCG(uint64(i), 186))
		for range 8 {
			k := anyKernel(rnd, f.name, 30)
			d, e := platter.New(1 << 22)
			if e != api.OK {
				t.Fatal(e)
			}
			p, e := purse.New(1 << 20)
			if e != api.OK {
				t.Fatal(e)
			}
			g := api.Graph{Name: "g", N: k.n, Kind: k.kind, Parts: 1 + rnd.IntN(min(int(k.n), 5)), Both: true}
			if g, e = wheel.Plant(d, p, g, 16, 2, wheel.Feed(k.edges)); e != api.OK {
				t.Fatal("Plant:", e)
			}
			program, e := k.program()
			if e != api.OK {
				t.Fatal(e)
			}
			o := api.Options{Run: "r", Batch: 16, Fan: 3, Workers: 2, Cap: api.MaxCap}
			if _, e := wheel.Run(d, p, g, program, 18, o); e != api.OK {
				t.Fatal("Run:", e)
			}
			out, e := wheel.States(d, p, "r", 32)
			if e != api.OK {
				t.Fatal("States:", e)
			}
			var states []api.State
			for _, s := range out.All() {
				states = append(states, s)
			}
			if e := out.Close(); e != api.OK || len(states) != int(k.n) {
				t.Fatal("States:", e, len(states))
			}
			stream, e := wheel.Edges(d, p, "g", 16)
			if e != api.OK {
				t.Fatal("Edges:", e)
			}
			v, e := k.call(stream.All(), states, roomFor(k.asked()))
			told(t, "P18.2: "+k.name+" on a volume", v, e, right)
			stream.Close()
		}
	}
}
