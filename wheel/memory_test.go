package wheel_test

import (
	"math/rand/v2"
	"slices"
	"testing"

	"sluice/api"
	"sluice/loom"
	"sluice/wheel"
)

// P12.11, 0.3: Memory is the second reading of the chapter, for whatever graph, program, workers; errors of programs too.
func TestMemoryIsTheChapter(t *testing.T) {
	met := map[api.Errno]int{}
	for seed := range uint64(400) {
		rnd := rand.New(rand.NewPCG(seed, 11))
		w := anyWorld(rnd, 30)
		most := 1 + rnd.IntN(6)
		if rnd.IntN(2) == 0 {
			w.prog.trap, w.prog.odds = 1+rnd.IntN(5), 1+rnd.Uint64N(100)
		}
		want, stats, e := sketched(w.g.N, w.g.Both, w.edges, w.prog, most)
		met[min(e, 122)]++
		was := slices.Clone(w.edges)
		got, s, f := wheel.Memory(w.g.N, w.g.Both, w.edges, w.prog, most, 1+rnd.IntN(16))
		if f != e || s != stats || !slices.Equal(got, want) {
			t.Fatalf("P12.11: world %d: %v %v %d, want %v %v %d", seed, got, s, f, want, stats, e)
		}
		if !slices.Equal(w.edges, was) {
			t.Fatal("P12.11: the list of edges was changed")
		}
		rnd.Shuffle(len(was), func(i, j int) { was[i], was[j] = was[j], was[i] })
		if got, s, f := wheel.Memory(w.g.N, w.g.Both, was, w.prog, most, 1); f != e || s != stats || !slices.Equal(got, want) {
			t.Fatalf("P12.11: world %d: another order of edges, another answer", seed)
		}
	}
	if met[api.OK] < 50 || met[api.ErrCap] < 20 || len(met) < 30 {
		t.Errorf("too little was tried: %v", met)
	}
}

// P12.11: more edges than go through at a time.
func TestMemoryOfManyEdges(t *testing.T) {
	rnd := rand.New(rand.NewPCG(3, 3))
	var l []api.Edge
	for range 4096*2 + 17 {
		l = append(l, api.Edge{Src: rnd.Uint32N(50), Dst: rnd.Uint32N(50), W: rnd.Uint32()})
	}
	prog := easy(9)
	prog.both = true
	want, stats, _ := sketched(50, true, l, prog, 9)
	if got, s, e := wheel.Memory(50, true, l, prog, 9, 3); e != api.OK || s != stats || !slices.Equal(got, want) {
		t.Errorf("P12.11: %v %d, want %v", s, e, stats)
	}
}

// P12.11: what is refused, and which goes first.
func TestMemoryRefuses(t *testing.T) {
	type call struct {
		n            uint32
		both         bool
		edges        []api.Edge
		prog         api.Program
		cap, workers int
	}
	back, wide, none := easy(1), easy(1), (*loom.Woven)(nil)
	back.both = true
	wide.words = 9
	steps := []struct {
		e     api.Errno
		spoil []func(c *call)
	}{
		{api.ErrNil, []func(c *call){func(c *call) { c.prog = nil }}},
		{api.ErrLong, []func(c *call){func(c *call) { c.n = api.MaxMemory + 1 }, func(c *call) { c.n = 1<<32 - 1 }}},
		{api.ErrArg, []func(c *call){func(c *call) { c.n = 0 }, func(c *call) { c.cap = 0 }, func(c *call) { c.cap = -1 }, func(c *call) { c.cap = api.MaxCap + 1 }, func(c *call) { c.workers = 0 }, func(c *call) { c.workers = api.MaxWorkers + 1 }}},
		{api.ErrProgram, []func(c *call){func(c *call) { c.prog = wide }, func(c *call) { c.prog = none }}},
		{api.ErrBack, []func(c *call){func(c *call) { c.prog = back }}},
		{api.ErrVertex, []func(c *call){func(c *call) { c.edges = []api.Edge{{Src: 0, Dst: 5}} }, func(c *call) { c.edges = []api.Edge{{Src: 0, Dst: 1}, {Src: 5, Dst: 0}} }}},
	}
	good := call{5, false, []api.Edge{{Src: 4, Dst: 0, W: 1 << 31}}, easy(1), 9, 2}
	try := func(c call) api.Errno {
		s, stats, e := wheel.Memory(c.n, c.both, c.edges, c.prog, c.cap, c.workers)
		if e != api.OK && (s != nil || stats != api.Stats{}) {
			t.Error("P12.11: something beside an error")
		}
		return e
	}
	if e := try(good); e != api.OK {
		t.Fatal(e)
	}
	for i, first := range steps {
		for _, b := range first.spoil {
			c := good
			b(&c)
			if e := try(c); e != first.e {
				t.Errorf("P12.11: %d, want %d", e, first.e)
			}
			for _, later := range steps[i+1:] {
				c := good
				later.spoil[0](&c)
				b(&c)
				if e := try(c); e != first.e {
					t.Errorf("P12.11: %d ahead of %d, got %d", first.e, later.e, e)
				}
			}
		}
	}
	for _, c := range []call{{api.MaxMemory, true, nil, easy(1), api.MaxCap, api.MaxWorkers}, {1, true, []api.Edge{{}}, easy(1), 3, 1}} {
		if e := try(c); e != api.OK {
			t.Errorf("P12.11: at the bounds: %d", e)
		}
	}
	if _, _, e := wheel.Memory(1, true, nil, easy(1), 2, 1); e != api.ErrCap {
		t.Errorf("P12.11: three rounds, a cap of two: %d", e)
	}
}

// 0.4: which sinks are sinks.
func TestSinks(t *testing.T) {
	prog := easy(2)
	for words := -1; words <= 9; words++ {
		for a := -1; a <= 8; a++ {
			for b := -1; b <= 8; b++ {
				for mons := range 9 {
					m := [][2]api.Monoid{{0, 0}, {0, 1}, {8, 0}, {3, 4}, {9, 0}, {0, 9}, {9, 5}, {6, 9}, {9, 9}}[mons]
					prog.words, prog.sink = words, api.Sink{A: a, MonA: m[0], B: b, MonB: m[1]}
					want := api.OK
					if words < 1 || words > 8 || !fitsSink(prog.sink, words) {
						want = api.ErrProgram
					}
					if _, _, e := wheel.Memory(2, false, []api.Edge{{Src: 0, Dst: 1}}, prog, 3, 1); e != want {
						t.Fatalf("0.4: %d words, %v: %d, want %d", words, prog.sink, e, want)
					}
				}
			}
		}
	}
	prog.words = 4
	for _, s := range []api.Sink{{MonA: 10}, {MonA: -1}, {MonB: 10}, {A: 1 << 62, MonA: 9}, {A: -1 << 63, MonA: 9}, {B: 1<<63 - 1, MonB: 1}} {
		prog.sink = s
		if _, _, e := wheel.Memory(2, false, nil, prog, 3, 1); e != api.ErrProgram {
			t.Errorf("0.4: %v: %d", s, e)
		}
	}
}
