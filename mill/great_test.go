package mill_test

import (
	"fmt"
	"math/rand/v2"
	"slices"
	"testing"

	"sluice/api"
	"sluice/mill"
)

// greatWorld tells a graph whose files have many chunks.
func greatWorld(rnd *rand.Rand, kernel string, n uint32, edges int) world {
	w := world{ask: anyAsk(rnd, kernel, n), n: n, kind: api.ECounted, both: isBoth(kernel)}
	for range edges {
		e := api.Edge{Src: rnd.Uint32N(n), Dst: rnd.Uint32N(n), W: rnd.Uint32N(100)}
		if kernel == "topo" && e.Src > e.Dst {
			e.Src, e.Dst = e.Dst, e.Src // few cycles
		}
		w.edges = append(w.edges, e)
	}
	return w
}

// result loads, runs, reads and audits.
func (w world) result(t testing.TB, what string, m *mill.Mill, graph, job []string) (api.Outcome, []string) {
	t.Helper()
	_, e := w.load(t, m, graph...)
	must(t, what, e)
	o, e := m.Run(w.job(job...))
	must(t, what, e)
	rows, e := rowsOf(t, m, w.job(job...))
	must(t, what, e)
	if v, e := m.Audit(w.job(job...)); e != api.OK || !v.Right {
		t.Fatalf("P19.27: %s: %d, %+v", what, e, v)
	}
	still(t, m, what)
	return o, rows
}

// P19.24, P19.25: graphs of many chunks, batches and parts: on a disk alone, and on several of which one fails, the same.
func TestGreatGraphs(t *testing.T) {
	for i, kernel := range []string{"bfs", "reach", "sssp", "wcc", "mis", "colour", "pagerank", "spmv", "conductance", "anf", "topo", "twocolour"} {
		rnd := rand.New(rand.NewPCG(uint64(i), 19190))
		w := greatWorld(rnd, kernel, 2500, 7000)
		what := fmt.Sprintf("%s, %v", kernel, w.fields)
		o, rows := w.result(t, what, open(t, 1), nil, nil)
		disks := 3 + i%4
		plans := make([][]api.Fault, disks)
		plans[i%disks] = faults(rnd, 5, 4000, api.FaultRead, api.FaultGhost, api.FaultRot, api.FaultTorn, api.FaultSync, api.FaultDown)
		o2, rows2 := w.shuffled(rnd).result(t, what, open(t, disks, plans...), []string{"parts = " + number(2+rnd.IntN(30)), "batch = 16", "fan = 2"}, []string{"batch = 17", "fan = 3", "workers = 4", "every = 2"})
		if o != o2 || !slices.Equal(rows, rows2) {
			t.Errorf("P19.24: %s: %+v, %+v", what, o, o2)
		}
	}
}

// P19.21, P19.23: as many parts as there may be, on a disk and on a stripe.
func TestMostParts(t *testing.T) {
	for _, disks := range []int{1, 3} {
		rnd := rand.New(rand.NewPCG(512, 19))
		w := greatWorld(rnd, "wcc", 600, 900)
		_, rows := w.result(t, "one part", open(t, 1), nil, nil)
		m := openAs(t, api.Setup{Disks: disks, Quota: api.MaxQuota, Budget: wealthy})
		_, again := w.result(t, "many parts", m, []string{"parts = 512"}, []string{"every = 1"})
		if !slices.Equal(rows, again) {
			t.Errorf("P19.24: %d disks", disks)
		}
	}
}
