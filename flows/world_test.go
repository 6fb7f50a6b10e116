package flows_test

import (
	"math/rand/v2"
	"slices"
	"testing"

	"sluice/api"
	"sluice/platter"
	"sluice/purse"
	"sluice/wheel"
)

// shuffled tells the same edges in another order.
func shuffled(rnd *rand.Rand, edges []api.Edge) []api.Edge {
	edges = slices.Clone(edges)
	rnd.Shuffle(len(edges), func(i, j int) { edges[i], edges[j] = edges[j], edges[i] })
	return edges
}

// plant lays the kernel's graph down, in some parts, through some buffers.
func (k kernel) plant(t *testing.T, rnd *rand.Rand, v api.Volume, p *purse.Purse) api.Graph {
	t.Helper()
	g := api.Graph{Name: "g", N: k.n, Kind: api.ECounted, Parts: 1 + rnd.IntN(min(int(k.n), 7)), Both: k.name == "wcc" || rnd.IntN(2) == 0}
	edges := shuffled(rnd, k.edges)
	if k.name == "sssp" && k.kind == api.EPlain {
		g.Kind = api.EPlain
		for i := range edges {
			edges[i].W = 0
		}
	}
	g, e := wheel.Plant(v, p, g, 16+rnd.IntN(30), 2+rnd.IntN(5), wheel.Feed(edges))
	if e != api.OK {
		t.Fatal("Plant:", e)
	}
	return g
}

// options of a run, with a cap that just suffices.
func (k kernel) options(rnd *rand.Rand) api.Options {
	return api.Options{Run: "r", Batch: 16 + rnd.IntN(40), Fan: 2 + rnd.IntN(6), Workers: 1 + rnd.IntN(api.MaxWorkers), Cap: int(k.n) + k.more(), Every: rnd.IntN(5)}
}

// result reads a run's states.
func result(t *testing.T, v api.Volume, p *purse.Purse) (l []api.State) {
	t.Helper()
	out, e := wheel.States(v, p, "r", 32)
	if e != api.OK {
		t.Fatal("States:", e)
	}
	for _, s := range out.All() {
		l = append(l, s)
	}
	if e := out.Code(); e != api.OK {
		t.Fatal("States:", e)
	}
	out.Close()
	return l
}

// lives runs the program while the power goes again and again, and tells how often it went.
func (k kernel) lives(t *testing.T, rnd *rand.Rand, d *platter.Disk, p *purse.Purse, g api.Graph) (stats api.Stats, gone int) {
	t.Helper()
	for {
		if gone < 4 {
			d.Plan(api.Fault{Op: d.Ops() + 1 + rnd.Int64N(300), Kind: api.FaultOff})
		}
		o := k.options(rnd)
		stats, e := wheel.Resume(d, p, g, k.flow(t), 13, o)
		if e == api.ErrRun {
			stats, e = wheel.Run(d, p, g, k.flow(t), 13, o)
		}
		if e == api.OK {
			for range 300 { // what is planned still strikes now
				d.Size("g.graph")
			}
			d.Restart(0)
			return stats, gone
		}
		if e != api.ErrOff {
			t.Fatalf("P13.9: %s over %v from %v: %d", k.name, k.edges, k.sources, e)
		}
		gone++
		d.Restart(rnd.IntN(9), rnd.Int64N(500), rnd.Int64N(500), rnd.Int64N(500))
	}
}

// P13.9: whatever the order of the edges, parts, buffers, workers, checkpoints and crashes: one result, one aggregate, one list of statistics, in memory and on a disk, and it is the chapter's.
func TestOneTruth(t *testing.T) {
	gone := 0
	for seed := range uint64(600) {
		rnd := rand.New(rand.NewPCG(seed, 139))
		k := anyKernel(rnd, names[seed%4], 30)
		want, stats, agg := k.run(t)
		k.right(t, want)
		for range 3 {
			got, s, e := wheel.Memory(k.n, true, shuffled(rnd, k.edges), k.flow(t), int(k.n)+k.more(), 1+rnd.IntN(api.MaxWorkers))
			if e != api.OK || s != stats || !slices.Equal(got, want) {
				t.Fatalf("P13.9: %s over %v from %v: %v %v %d, want %v %v", k.name, k.edges, k.sources, got, s, e, want, stats)
			}
		}
		d, _ := platter.New(1 << 24)
		p, _ := purse.New(1 << 16)
		g := k.plant(t, rnd, d, p)
		s, e := wheel.Run(d, p, g, k.flow(t), 13, k.options(rnd))
		if seed%3 == 0 {
			wheel.Wipe(d, "r")
			var went int
			s, went = k.lives(t, rnd, d, p, g)
			gone += went
		}
		mark, f := wheel.Info(d, "r")
		if e != api.OK || f != api.OK || s != stats || mark.Agg != agg {
			t.Fatalf("P13.9: %s over %v from %v: %v %v %d %d, want %v %v", k.name, k.edges, k.sources, s, mark.Agg, e, f, stats, agg)
		}
		if got := result(t, d, p); !slices.Equal(got, want) {
			t.Fatalf("P13.9: %s over %v from %v: %v, want %v", k.name, k.edges, k.sources, got, want)
		}
	}
	if gone < 200 {
		t.Errorf("too little was tried: the power went %d times", gone)
	}
}
