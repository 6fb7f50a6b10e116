package peels_test

import (
	"math/rand/v2"
	"slices"
	"testing"

	"sluice/api"
	"sluice/platter"
	"sluice/purse"
	"sluice/wheel"
)

// plant lays the kernel's graph down, in some parts, through some buffers.
func (k kernel) plant(t *testing.T, rnd *rand.Rand, v api.Volume, p *purse.Purse) api.Graph {
	t.Helper()
	n := k.order.N
	g := api.Graph{Name: "g", N: n, Kind: api.ECounted, Parts: 1 + rnd.IntN(min(int(n), 7)), Both: true}
	g, e := wheel.Plant(v, p, g, 16+rnd.IntN(30), 2+rnd.IntN(5), wheel.Feed(shuffled(rnd, k.edges)))
	if e != api.OK {
		t.Fatal("Plant:", e)
	}
	return g
}

// options of a run, with a cap that the chapter says suffices.
func (k kernel) options(rnd *rand.Rand) api.Options {
	return api.Options{Run: "r", Batch: 16 + rnd.IntN(40), Fan: 2 + rnd.IntN(6), Workers: 1 + rnd.IntN(api.MaxWorkers), Cap: k.most(), Every: rnd.IntN(5)}
}

// result reads a run's states.
func result(t *testing.T, v api.Volume, p *purse.Purse) (l []api.State) {
	t.Helper()
	out, e := wheel.States(v, p, "r", 32)
	if e != api.OK {
		t.Fatal("States:", e)
	}
	for _, s := range out.All() {
		l = append(l, s)
	}
	if e := out.Code(); e != api.OK {
		t.Fatal("States:", e)
	}
	out.Close()
	return l
}

// lives runs the program while the power goes again and again, and tells how often it went.
func (k kernel) lives(t *testing.T, rnd *rand.Rand, d *platter.Disk, p *purse.Purse, g api.Graph) (stats api.Stats, gone int) {
	t.Helper()
	for {
		if gone < 4 {
			d.Plan(api.Fault{Op: d.Ops() + 1 + rnd.Int64N(300), Kind: api.FaultOff})
		}
		o := k.options(rnd)
		stats, e := wheel.Resume(d, p, g, k.peel(t), 14, o)
		if e == api.ErrRun {
			stats, e = wheel.Run(d, p, g, k.peel(t), 14, o)
		}
		if e == api.OK {
			for range 300 { // what is planned still strikes now
				d.Size("g.graph")
			}
			d.Restart(0)
			return stats, gone
		}
		if e != api.ErrOff {
			t.Fatalf("%s of %v over %v: %d", k.name, k.order, k.edges, e)
		}
		gone++
		d.Restart(rnd.IntN(9), rnd.Int64N(500), rnd.Int64N(500), rnd.Int64N(500))
	}
}

// P14.5 to P14.7: whatever the order of the edges, parts, buffers, workers, checkpoints and crashes: one result, one aggregate, one list of statistics, in memory and on a disk, and it is the chapter's.
func TestOneTruth(t *testing.T) {
	gone := 0
	for seed := range uint64(450) {
		rnd := rand.New(rand.NewPCG(seed, 149))
		k := anyKernel(rnd, names[seed%3], 30)
		want, stats, agg, e := k.run(t)
		k.right(t, want, e)
		for range 3 {
			got, s, e := wheel.Memory(k.order.N, true, shuffled(rnd, k.edges), k.peel(t), k.most(), 1+rnd.IntN(api.MaxWorkers))
			if e != api.OK || s != stats || !slices.Equal(got, want) {
				t.Fatalf("%s of %v over %v: %v %v %d, want %v %v", k.name, k.order, k.edges, got, s, e, want, stats)
			}
		}
		d, _ := platter.New(1 << 24)
		p, _ := purse.New(1 << 16)
		g := k.plant(t, rnd, d, p)
		s, e := wheel.Run(d, p, g, k.peel(t), 14, k.options(rnd))
		if seed%4 == 0 {
			wheel.Wipe(d, "r")
			var went int
			s, went = k.lives(t, rnd, d, p, g)
			gone += went
		}
		mark, f := wheel.Info(d, "r")
		if e != api.OK || f != api.OK || s != stats || mark.Agg != agg {
			t.Fatalf("%s of %v over %v: %v %v %d %d, want %v %v", k.name, k.order, k.edges, s, mark.Agg, e, f, stats, agg)
		}
		if got := result(t, d, p); !slices.Equal(got, want) {
			t.Fatalf("%s of %v over %v: %v, want %v", k.name, k.order, k.edges, got, want)
		}
	}
	if gone < 100 {
		t.Errorf("too little was tried: the power went %d times", gone)
	}
}

// P14.6: a run on a disk, too, ends with ErrColours, and leaves no result.
func TestColoursRunOutOnADisk(t *testing.T) {
	rnd := rand.New(rand.NewPCG(7, 149))
	for _, n := range []uint32{64, 65} {
		for every := range 3 {
			k := kernel{"colour", anyOrder(rnd, n), all(0, n)}
			d, _ := platter.New(1 << 24)
			p, _ := purse.New(1 << 16)
			g := k.plant(t, rnd, d, p)
			o := k.options(rnd)
			o.Every = every * 7
			_, e := wheel.Run(d, p, g, k.peel(t), 14, o)
			if want := []api.Errno{api.OK, api.ErrColours}[n-64]; e != want {
				t.Errorf("P14.6: %d neighbours: %d, want %d", n, e, want)
			}
			if e == api.OK {
				k.right(t, result(t, d, p), e)
			} else if _, e := wheel.States(d, p, "r", 32); e != api.ErrRun {
				t.Errorf("P14.6: behind ErrColours: %d", e)
			}
		}
	}
}
