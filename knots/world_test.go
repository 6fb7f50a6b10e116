package knots_test

import (
	"math/rand/v2"
	"slices"
	"sync"
	"testing"

	"sluice/api"
	"sluice/platter"
	"sluice/purse"
	"sluice/wheel"
)

// plant lays the kernel's graph down with its back edges, in some parts, through some buffers.
func (k kernel) plant(t *testing.T, rnd *rand.Rand, v api.Volume, p *purse.Purse) api.Graph {
	t.Helper()
	g := api.Graph{Name: "g", N: k.n, Kind: k.kind, Parts: 1 + rnd.IntN(min(int(k.n), 7)), Both: true}
	g, e := wheel.Plant(v, p, g, 16+rnd.IntN(30), 2+rnd.IntN(5), wheel.Feed(shuffled(rnd, k.edges)))
	if e != api.OK {
		t.Fatal("Plant:", e)
	}
	return g
}

// options of a run, with room for as many rounds as the chapter says.
func (k kernel) options(rnd *rand.Rand) api.Options {
	return api.Options{Run: "r", Batch: 16 + rnd.IntN(40), Fan: 2 + rnd.IntN(6), Workers: 1 + rnd.IntN(api.MaxWorkers), Cap: k.bound(), Every: rnd.IntN(5)}
}

// result reads a run's states.
func result(t *testing.T, v api.Volume, p *purse.Purse) (l []api.State) {
	t.Helper()
	out, e := wheel.States(v, p, "r", 32)
	if e != api.OK {
		t.Fatal("States:", e)
	}
	for _, s := range out.All() {
		l = append(l, s)
	}
	if e := out.Code(); e != api.OK {
		t.Fatal("States:", e)
	}
	out.Close()
	return l
}

// lives runs the program while the power goes again and again, and tells how often it went.
func (k kernel) lives(t *testing.T, rnd *rand.Rand, d *platter.Disk, p *purse.Purse, g api.Graph) (stats api.Stats, gone int) {
	t.Helper()
	for {
		if gone < 4 {
			d.Plan(api.Fault{Op: d.Ops() + 1 + rnd.Int64N(300), Kind: api.FaultOff})
		}
		o := k.options(rnd)
		stats, e := wheel.Resume(d, p, g, k.program(t), 16, o)
		if e == api.ErrRun {
			stats, e = wheel.Run(d, p, g, k.program(t), 16, o)
		}
		if e == api.OK {
			for range 300 { // what is planned still strikes now
				d.Size("g.graph")
			}
			d.Restart(0)
			return stats, gone
		}
		if e != api.ErrOff {
			t.Fatalf("%+v: %d", k, e)
		}
		gone++
		d.Restart(rnd.IntN(9), rnd.Int64N(500), rnd.Int64N(500), rnd.Int64N(500))
	}
}

// P16.4: whatever the order of the edges, parts, buffers, workers, checkpoints and crashes: the same results, in memory and on a disk, and they are the chapter's.
func TestOneTruth(t *testing.T) {
	gone := 0
	for seed := range uint64(360) {
		rnd := rand.New(rand.NewPCG(seed, 164))
		k := anyKernel(rnd, names[seed%3], 25)
		want, stats, agg := k.run(t)
		for range 3 {
			got, s, e := wheel.Memory(k.n, true, shuffled(rnd, k.edges), k.program(t), stats.Rounds, 1+rnd.IntN(api.MaxWorkers))
			if e != api.OK || s != stats || !slices.Equal(got, want) {
				t.Fatalf("P16.4: %v %v %d, want %v %v: %+v", got, s, e, want, stats, k)
			}
		}
		d, _ := platter.New(1 << 24)
		p, _ := purse.New(1 << 16)
		g := k.plant(t, rnd, d, p)
		s, e := wheel.Run(d, p, g, k.program(t), 16, k.options(rnd))
		if seed/3%3 == 0 {
			wheel.Wipe(d, "r")
			var went int
			s, went = k.lives(t, rnd, d, p, g)
			gone += went
		}
		mark, f := wheel.Info(d, "r")
		if e != api.OK || f != api.OK || s != stats || mark.Agg != agg {
			t.Fatalf("P16.4: %v %v %d %d, want %v %v: %+v", s, mark.Agg, e, f, stats, agg, k)
		}
		if got := result(t, d, p); !slices.Equal(got, want) {
			t.Fatalf("P16.4: %v, want %v: %+v", got, want, k)
		}
	}
	if gone < 100 {
		t.Errorf("too little was tried: the power went %d times", gone)
	}
}

// P16.1 to P16.3: many graphs, each held against the chapter behind each round; of each program all that there is to tell comes up.
func TestRounds(t *testing.T) {
	count := map[string]map[uint64]int{}
	for _, name := range names {
		count[name] = map[uint64]int{}
	}
	for seed := range uint64(6000) {
		k := anyKernel(rand.New(rand.NewPCG(seed, 163)), names[seed%3], 10)
		states, _, _ := k.run(t)
		for _, word := range firsts(states) {
			count[k.name][word]++
		}
	}
	for name, words := range map[string][]uint64{"scc": {0, 1, 2, 5}, "topo": {0, 1, 2, 5, none}, "colour": {0, 1, 2}} {
		for _, word := range words {
			if count[name][word] < 10 {
				t.Errorf("too little was tried: %s: %d comes up %d times", name, word, count[name][word])
			}
		}
	}
}

// P16.4, P0.1: a Knots may be used by several goroutines, and answers the same each time.
func TestManyAtATime(t *testing.T) {
	for i, name := range names {
		k := anyKernel(rand.New(rand.NewPCG(uint64(i), 165)), name, 60)
		p := k.program(t)
		want, stats, _ := k.run(t)
		var all sync.WaitGroup
		for range 8 {
			all.Go(func() {
				got, s, e := wheel.Memory(k.n, true, k.edges, p, stats.Rounds, 4)
				if e != api.OK || s != stats || !slices.Equal(got, want) {
					t.Errorf("P16.4: %s: %v %d, want %v", name, s, e, stats)
				}
			})
		}
		all.Wait()
	}
}
