package mill_test

import (
	"fmt"
	"hash/crc32"
	"math/rand/v2"
	"slices"
	"strings"
	"testing"

	"sluice/api"
	"sluice/mill"
	"sluice/reel"
	"sluice/roster"
)

// P19.7: the errors of Audit behind those of a job, in their order.
func TestAuditRefuses(t *testing.T) {
	m := open(t, 1)
	threeGraphs(t, m)
	must(t, "P19.8", m.Teach("p", "program p;\nstate x int;\n"))
	wcc := askOf("wcc").jobOf("r", "b", "every = 1", "cap = 1")
	if _, e := m.Run(wcc); e != api.ErrCap {
		t.Fatal(e)
	}
	for i, c := range []struct {
		job  string
		want api.Errno
	}{
		{askOf("code", "program", "p").jobOf("x", "b"), api.ErrKernel}, // and no run
		{askOf("code", "program", "p").jobOf("r", "b"), api.ErrKernel},
		{askOf("wcc").jobOf("x", "b"), api.ErrRun},
		{askOf("scc").jobOf("r", "b"), api.ErrOther}, // and not done
		{wcc, api.ErrRun},
	} {
		if v, e := m.Audit(c.job); e != c.want || v != (api.Verdict{}) {
			t.Errorf("P19.7: case %d: %d, want %d", i, e, c.want)
		}
	}
	if _, e := m.Rows(wcc); e != api.ErrRun {
		t.Errorf("P19.6: a run that is not done: %d", e)
	}
	text := strings.Repeat("x", 40)
	must(t, "Publish", reel.Publish(m.Disk(0), "s.run", []byte(text)))
	_, rows := m.Rows(askOf("scc").jobOf("s", "b"))
	if v, e := m.Audit(askOf("scc").jobOf("s", "b")); e != api.ErrSeal || rows != api.ErrSeal || v.Right {
		t.Errorf("P19.7: a manifest that is none: %d, %d", e, rows)
	}
	still(t, m, "P19.7")
}

// P19.7: a result of another number of states than the graph has vertices.
func TestAuditOfAnotherSize(t *testing.T) {
	for _, n := range []uint32{1, 4, 6, 900} {
		w := world{ask: askOf("conductance"), n: 5, kind: api.EPlain, edges: between(0, 1, 3, 4)}
		m, _ := done(t, w, w.job())
		must(t, "P19.8", m.Uproot("g"))
		w.n, w.edges = n, nil
		_, e := w.load(t, m)
		must(t, "P19.3", e)
		if v, e := m.Audit(w.job()); e != api.ErrSizes || v != (api.Verdict{}) {
			t.Errorf("P19.7: five states of %d vertices: %d, %+v", n, e, v)
		}
		still(t, m, "P19.7")
	}
}

// P19.7, P19.27: a result is held against the graph that is there: right just if the rows are the kernel's function of it.
func TestAuditOfAnotherGraph(t *testing.T) {
	right, wrong := 0, 0
	for seed := range uint64(560) {
		rnd := rand.New(rand.NewPCG(seed, 1927))
		w := anyWorld(rnd, kernelAt(seed), 5)
		if w.kernel == "colour" && w.n < 2 {
			continue
		}
		m, _ := done(t, w, w.job())
		old := w.model(t)
		must(t, "P19.8", m.Uproot("g"))
		switch rnd.IntN(3) {
		case 0:
			w.edges = append(slices.Clone(w.edges), w.edges...) // each twice
		case 1:
			w.edges = w.edges[:len(w.edges)/2]
		default:
			w.edges = anyEdges(rnd, w.n)
			for i := range w.edges {
				w.edges[i].W = anyWeight(rnd, w.kind)
			}
		}
		_, e := w.load(t, m)
		must(t, "P19.3", e)
		v, e := m.Audit(w.job())
		must(t, "P19.7", e)
		same := slices.Equal(w.model(t).rows, old.rows)
		// What rows do not show: by which way a distance was found, which numbers make up a size.
		if hidden := w.kernel == "sssp" || w.kernel == "anf"; v.Right && !same || !v.Right && same && !hidden {
			t.Errorf("P19.27: seed %d: %+v: %+v, rows %q, want %q", seed, w, v, old.rows, w.model(t).rows)
		}
		if !v.Right && (v.Rule == 0 || v.Vertex >= w.n) {
			t.Errorf("P19.7: %+v", v)
		}
		if script := m.Script("audit\n" + w.job() + ".\n"); script != map[bool]string{true: "ok right\n", false: "ok wrong\n"}[v.Right] {
			t.Errorf("P19.10: %q", script)
		}
		if v.Right {
			right++
		} else {
			wrong++
		}
		still(t, m, "P19.7")
	}
	if right < 60 || wrong < 60 {
		t.Errorf("too little was tried: %d right, %d wrong", right, wrong)
	}
}

// P19.7: a bit of the result, of the manifest or of the graph is turned: it is told, or the verdict is right all the same.
func TestAuditOfTurnedBits(t *testing.T) {
	told := 0
	for seed := range uint64(200) {
		rnd := rand.New(rand.NewPCG(seed, 197))
		w := anyWorld(rnd, kernelAt(seed), 8)
		m, _ := done(t, w, w.job())
		l := names(t, m)
		name := l[rnd.IntN(len(l))]
		size, _ := m.Disk(0).Size(name)
		must(t, "Flip", m.Disk(0).Flip(name, rnd.Int64N(8*size)))
		v, e := m.Audit(w.job())
		if e == api.OK && !v.Right || e != api.OK && mill.Class(e) != api.Corrupt || e != api.OK && v != (api.Verdict{}) {
			t.Errorf("P19.27: seed %d, %s of %+v: %d, %+v", seed, name, w, e, v)
		}
		if e != api.OK {
			told++
		}
		still(t, m, "P19.7")
	}
	if told < 100 {
		t.Errorf("too little was tried: %d", told)
	}
}

// P19.7: 20 n + 16 batch + 8192 words are enough, with n far above all else; fewer than the result and the room are too few.
func TestAuditWithin(t *testing.T) {
	const n, batch = 3000, 16
	for _, kernel := range builtIn {
		w := world{ask: askOf(kernel), n: n, kind: api.EPlain, both: isBoth(kernel)}
		for v := range uint32(40) {
			w.edges = append(w.edges, between(v, 2*v+1, 7*v+5, v)...)
		}
		for _, c := range []struct {
			words int
			want  api.Errno
		}{{20*n + 16*batch + 8192, api.OK}, {8*n + 500, api.ErrSpent}} {
			m := openAs(t, api.Setup{Disks: 1, Quota: roomy, Budget: c.words})
			_, e := w.load(t, m, "parts = 30", "batch = 16")
			must(t, "P19.3", e)
			job := w.job("batch = " + number(batch))
			_, e = m.Run(job)
			must(t, "P19.4: "+kernel, e)
			if v, e := m.Audit(job); e != c.want || v.Right != (e == api.OK) {
				t.Errorf("P19.7: %s with %d words: %d, %+v", kernel, c.words, e, v)
			}
			still(t, m, kernel)
		}
	}
}

// P19.7: more vertices than a lease has places: ErrLength, ahead of all that would be read.
func TestAuditOfTooMany(t *testing.T) {
	m := openAs(t, api.Setup{Disks: 1, Quota: roomy, Budget: 1 << 30})
	g, e := m.Load(fmt.Sprintf("[graph]\nname = g\nvertices = %d\nparts = 2\n", api.MaxLength+1), nil)
	must(t, "P19.3", e)
	mark := api.RunMark{Run: "r", Graph: "g", GraphSum: g.Sum, Code: crc32.ChecksumIEEE([]byte("conductance\nseed=0")), Words: 2, Gen: 1, Round: 1, Stats: api.Stats{Rounds: 1}}
	for _, c := range []struct {
		done bool
		want api.Errno
	}{{false, api.ErrRun}, {true, api.ErrLength}} {
		mark.Done = c.done
		text, e := roster.FromRun(mark)
		must(t, "FromRun", e)
		must(t, "Publish", reel.Publish(m.Disk(0), "r.run", []byte(text)))
		if v, e := m.Audit(askOf("conductance").job()); e != c.want || v != (api.Verdict{}) {
			t.Errorf("P19.7: done %v: %d, %+v", c.done, e, v)
		}
		still(t, m, "P19.7")
	}
}

// P19.7: the room of two words a vertex is longer than a lease, where there are more than half of MaxLength vertices: Audit takes it all the same.
func TestAuditOfMany(t *testing.T) {
	const n = api.MaxLength/2 + 1
	w := world{ask: askOf("bfs", "source", number(n-1)), n: n, kind: api.EPlain, edges: between(n-1, 0, 0, n-2)}
	m := openAs(t, api.Setup{Disks: 1, Quota: 1 << 29, Budget: 20*n + 16*256 + 8192})
	_, e := w.load(t, m, "parts = 64")
	must(t, "P19.3", e)
	_, e = m.Run(w.job())
	must(t, "P19.4", e)
	if v, e := m.Audit(w.job()); e != api.OK || !v.Right {
		t.Errorf("P19.7: %d, %+v", e, v)
	}
	still(t, m, "P19.7")
}
