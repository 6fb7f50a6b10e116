package ranks_test

import (
	"math/rand/v2"
	"slices"
	"sync"
	"testing"

	"sluice/api"
	"sluice/platter"
	"sluice/purse"
	"sluice/wheel"
)

// plant lays the kernel's graph down, in some parts, through some buffers, with or without back edges.
func (k kernel) plant(t *testing.T, rnd *rand.Rand, v api.Volume, p *purse.Purse) api.Graph {
	t.Helper()
	g := api.Graph{Name: "g", N: k.n, Kind: k.kind, Parts: 1 + rnd.IntN(min(int(k.n), 7)), Both: rnd.IntN(3) == 0}
	g, e := wheel.Plant(v, p, g, 16+rnd.IntN(30), 2+rnd.IntN(5), wheel.Feed(shuffled(rnd, k.edges)))
	if e != api.OK {
		t.Fatal("Plant:", e)
	}
	return g
}

// options of a run, with room for as many rounds as it has.
func (k kernel) options(rnd *rand.Rand, rounds int) api.Options {
	return api.Options{Run: "r", Batch: 16 + rnd.IntN(40), Fan: 2 + rnd.IntN(6), Workers: 1 + rnd.IntN(api.MaxWorkers), Cap: rounds, Every: rnd.IntN(5)}
}

// result reads a run's states.
func result(t *testing.T, v api.Volume, p *purse.Purse) (l []api.State) {
	t.Helper()
	out, e := wheel.States(v, p, "r", 32)
	if e != api.OK {
		t.Fatal("States:", e)
	}
	for _, s := range out.All() {
		l = append(l, s)
	}
	if e := out.Code(); e != api.OK {
		t.Fatal("States:", e)
	}
	out.Close()
	return l
}

// lives runs the program while the power goes again and again, and tells how often it went.
func (k kernel) lives(t *testing.T, rnd *rand.Rand, d *platter.Disk, p *purse.Purse, g api.Graph, rounds int) (stats api.Stats, gone int) {
	t.Helper()
	for {
		if gone < 4 {
			d.Plan(api.Fault{Op: d.Ops() + 1 + rnd.Int64N(200), Kind: api.FaultOff})
		}
		o := k.options(rnd, rounds)
		stats, e := wheel.Resume(d, p, g, k.ranker(t), 15, o)
		if e == api.ErrRun {
			stats, e = wheel.Run(d, p, g, k.ranker(t), 15, o)
		}
		if e == api.OK {
			for range 200 { // what is planned still strikes now
				d.Size("g.graph")
			}
			d.Restart(0)
			return stats, gone
		}
		if e != api.ErrOff {
			t.Fatalf("%+v: %d", k, e)
		}
		gone++
		d.Restart(rnd.IntN(9), rnd.Int64N(500), rnd.Int64N(500), rnd.Int64N(500))
	}
}

// P15.10: whatever the order of the edges, parts, buffers, workers, checkpoints and crashes: the same bits, in memory and on a disk, and they are the chapter's.
func TestOneTruth(t *testing.T) {
	gone := 0
	for seed := range uint64(480) {
		rnd := rand.New(rand.NewPCG(seed, 159))
		k := anyKernel(rnd, names[seed%4], 30)
		want, stats, agg := k.run(t)
		for range 3 {
			got, s, e := wheel.Memory(k.n, rnd.IntN(2) == 0, shuffled(rnd, k.edges), k.ranker(t), stats.Rounds, 1+rnd.IntN(api.MaxWorkers))
			if e != api.OK || s != stats || !slices.Equal(got, want) {
				t.Fatalf("P15.10: %v %v %d, want %v %v: %+v", got, s, e, want, stats, k)
			}
		}
		d, _ := platter.New(1 << 24)
		p, _ := purse.New(1 << 16)
		g := k.plant(t, rnd, d, p)
		s, e := wheel.Run(d, p, g, k.ranker(t), 15, k.options(rnd, stats.Rounds))
		if seed/4%3 == 0 {
			wheel.Wipe(d, "r")
			var went int
			s, went = k.lives(t, rnd, d, p, g, stats.Rounds)
			gone += went
		}
		mark, f := wheel.Info(d, "r")
		if e != api.OK || f != api.OK || s != stats || mark.Agg != agg {
			t.Fatalf("P15.10: %v %v %d %d, want %v %v: %+v", s, mark.Agg, e, f, stats, agg, k)
		}
		if got := result(t, d, p); !slices.Equal(got, want) {
			t.Fatalf("P15.10: %v, want %v: %+v", got, want, k)
		}
	}
	if gone < 100 {
		t.Errorf("too little was tried: the power went %d times", gone)
	}
}

// P15.2 to P15.9: the rounds of many graphs, each held against the chapter.
func TestRounds(t *testing.T) {
	long := 0
	for seed := range uint64(2000) {
		k := anyKernel(rand.New(rand.NewPCG(seed, 158)), names[seed%4], 12)
		if _, stats, _ := k.run(t); stats.Rounds > 4 {
			long++
		}
	}
	if long < 200 {
		t.Errorf("too little was tried: %d runs of more than four rounds", long)
	}
}

// P15.10, P0.1: a Ranker may be used by several goroutines, and answers the same each time.
func TestManyAtATime(t *testing.T) {
	for i, name := range names {
		k := anyKernel(rand.New(rand.NewPCG(uint64(i), 157)), name, 60)
		p := k.ranker(t)
		want, stats, _ := k.run(t)
		var all sync.WaitGroup
		for range 8 {
			all.Go(func() {
				got, s, e := wheel.Memory(k.n, false, k.edges, p, stats.Rounds, 4)
				if e != api.OK || s != stats || !slices.Equal(got, want) {
					t.Errorf("P15.10: %s: %v %d, want %v", name, s, e, stats)
				}
			})
		}
		all.Wait()
	}
}
