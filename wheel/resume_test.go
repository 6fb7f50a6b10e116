package wheel_test

import (
	"fmt"
	"math/rand/v2"
	"slices"
	"strings"
	"testing"

	"sluice/api"
	"sluice/platter"
	"sluice/purse"
	"sluice/wheel"
)

// halted tells a disk with a run that stands behind a round.
func halted(t *testing.T, w world, round int) (*platter.Disk, api.Graph) {
	t.Helper()
	d, g := planted(t, w)
	o := w.o
	o.Every, o.Cap = 1, round
	if _, e := wheel.Run(d, bag(t, 1<<16), g, w.prog, 1, o); e != api.ErrCap {
		t.Fatal(e)
	}
	return d, g
}

// P12.7: a run that is gone on with, again and again, with other options each time, ends with the result and the statistics of one that was never interrupted.
func TestResume(t *testing.T) {
	for seed := range uint64(150) {
		rnd := rand.New(rand.NewPCG(seed, 7))
		w := anyWorld(rnd, 30)
		w.prog.rounds = 2 + rnd.IntN(8)
		want, stats, _ := sketched(w.g.N, w.g.Both, w.edges, w.prog, 99)
		d, g := planted(t, w)
		o := anyOptions(rnd)
		o.Every, o.Cap = 1+rnd.IntN(2), 1
		s, e := wheel.Run(d, bag(t, 1<<16), g, w.prog, 1, o)
		stand := 0
		for e == api.ErrCap {
			tidy(t, d, "resumed")
			m, f := wheel.Info(d, "r")
			if f != api.OK || m.Done || m.Round < stand || m.Stats.Rounds != m.Round || m.Gen != m.Round {
				t.Fatalf("P12.7: %v, %d", m, f)
			}
			stand = m.Round
			every := o.Every
			o = anyOptions(rnd)
			if o.Cap = stand + 1 + rnd.IntN(3); o.Cap < stand+every {
				o.Cap = stand + every // so that there is a next checkpoint
			}
			o.Every = every
			p := bag(t, 1<<16)
			if s, e = wheel.Resume(d, p, g, w.prog, 1, o); p.Used() != 0 {
				t.Fatal("P12.7: leases")
			}
		}
		got, f := result(t, d, "r")
		if e != api.OK || s != stats || f != api.OK || !slices.Equal(got, want) {
			t.Fatalf("P12.7: world %d: %d %v, want %v", seed, e, s, stats)
		}
		if s, e := wheel.Resume(d, bag(t, 0), g, w.prog, 1, o); e != api.OK || s != stats {
			t.Fatalf("P12.7: of one that is done: %d %v", e, s)
		}
		tidy(t, d, "resumed")
	}
}

// P12.7: what a run has sent, gone along and changed is told of the whole run, whoever made the rounds.
func TestResumedStatistics(t *testing.T) {
	w := some()
	w.prog.rounds = 6
	_, stats, _ := sketched(w.g.N, true, w.edges, w.prog, 9)
	for round := 1; round < 6; round++ {
		d, g := halted(t, w, round)
		m, _ := wheel.Info(d, "r")
		if m.Stats.Edges != uint64(50*round) || m.Stats.Rounds != round {
			t.Errorf("P12.8: %v", m.Stats)
		}
		if s, e := wheel.Resume(d, bag(t, 1<<16), g, w.prog, 1, w.o); e != api.OK || s != stats || s.Edges != 300 {
			t.Errorf("P12.7: %d, %v, want %v", e, s, stats)
		}
	}
}

// P12.7: each error of Resume by itself, and which goes first.
func TestResumeRefuses(t *testing.T) {
	w := some()
	w.g.Both, w.prog.rounds = false, 6
	d, g := halted(t, w, 2)
	d.Remove("r-s-0000002-0001") // what is refused ahead never looks at the states
	fresh := func() running {
		return running{d.Copy(), bag(t, 1<<16), g, w.prog, 1, w.o, wheel.Resume}
	}
	least, _ := wheel.Need(g, w.o, w.prog.words)
	other := easy(1)
	other.words = 5
	steps := append(shared(), []step{
		{api.ErrRun, []func(c *running){func(c *running) { c.v.Remove("r.run") }, func(c *running) { c.o.Run = "q" }}},
		{api.ErrSeal, []func(c *running){func(c *running) { flip(t, c.v, "r.run", 99) }, func(c *running) { put(t, c.v, "r.run", "") }}},
		{api.ErrOther, []func(c *running){
			func(c *running) { c.code = 2 }, func(c *running) { c.prog = other },
			func(c *running) { lieRun(t, c.v, func(m *api.RunMark) { m.Run = "q" }) }, func(c *running) { lieRun(t, c.v, func(m *api.RunMark) { m.Graph = "h" }) },
			func(c *running) { lieRun(t, c.v, func(m *api.RunMark) { m.GraphSum++ }) }, func(c *running) { lieRun(t, c.v, func(m *api.RunMark) { m.Words++ }) }}},
		{api.ErrCap, []func(c *running){func(c *running) { c.o.Cap = 2 }, func(c *running) { c.o.Cap = 1 }}},
		{api.ErrSpent, []func(c *running){func(c *running) { c.p = bag(t, least-1) }, func(c *running) { purse.Take[uint64](c.p, 1<<16-least+1) }}},
		{api.ErrQuota, []func(c *running){func(c *running) { c.v = refusing(c.v, "List", api.ErrQuota) }, func(c *running) {
			put(t, c.v, "r-u-0003", "stray")
			c.v = refusing(c.v, "Remove r-u-0003", api.ErrQuota)
		}}},
		{api.ErrNoFile, []func(c *running){func(c *running) {}}},
	}...)
	inOrder(t, "P12.7", steps[1:], fresh)
	for _, spoil := range steps[0].spoil {
		c := fresh()
		c.o.Cap = 0
		spoil(&c)
		if _, e := c.call(c.v, c.p, c.g, c.prog, c.code, c.o); e != api.ErrNil {
			t.Errorf("P12.7: %d", e)
		}
	}
	if _, e := wheel.Resume(refusing(d, "ReadAt r.run", 999), bag(t, 1<<16), g, w.prog, 1, w.o); e != 999 {
		t.Errorf("P12.7: %d", e)
	}
}

// P12.7: of a run that is done the statistics, whatever the cap and the purse; its strays are removed, and errors of that passed over.
func TestResumeOfOneThatIsDone(t *testing.T) {
	w := some()
	d, g := planted(t, w)
	s, e := wheel.Run(d, bag(t, 1<<16), g, w.prog, 1, w.o)
	if e != api.OK {
		t.Fatal(e)
	}
	o := w.o
	o.Cap = 1
	for _, v := range []api.Volume{refusing(d, "List", api.ErrIO), refusing(d, "Remove", api.ErrIO), d} {
		put(t, d, "r-u-0000", "stray")
		put(t, d, "r-s-0000002-0000", "stray")
		if again, e := wheel.Resume(v, bag(t, 0), g, w.prog, 1, o); e != api.OK || again != s {
			t.Errorf("P12.7: %d, %v", e, again)
		}
	}
	tidy(t, d, "done")
	if _, e := wheel.Resume(d, bag(t, 0), g, w.prog, 2, o); e != api.ErrOther {
		t.Errorf("P12.7: another code: %d", e)
	}
}

// P12.7: strays of the run that was interrupted are removed first; what the manifest names stays, also where the run ends with an error.
func TestResumeRemovesStrays(t *testing.T) {
	w := some()
	w.prog.rounds = 6
	d, g := halted(t, w, 2)
	for _, name := range []string{"r-s-0000001-0000", "r-s-0000003-0000", "r-s-0000002-0003", "r-u-0001", "r.run.new"} {
		put(t, d, name, "stray")
	}
	put(t, d, "r-s-0000003", "other")
	bad := w.prog
	bad.trap, bad.odds = 3, 1
	if _, e := wheel.Resume(d, bag(t, 1<<16), g, bad, 1, w.o); e == api.OK {
		t.Fatal("no error?")
	}
	want := []string{"r-s-0000002-0000", "r-s-0000002-0001", "r-s-0000002-0002", "r-s-0000003", "r.run"}
	if l := runFiles(t, d); !slices.Equal(l, want) {
		t.Errorf("P12.7, P12.15: %v, want %v", l, want)
	}
	if _, e := wheel.Resume(d, bag(t, 1<<16), g, w.prog, 1, w.o); e != api.OK {
		t.Errorf("P12.7: %d", e)
	}
}

// P12.7, P12.16: a manifest of a run that names other files than the run has is told; none panics.
func TestResumeOfManifestsThatLie(t *testing.T) {
	w := some()
	w.prog.rounds = 6
	base, g := halted(t, w, 2)
	for i, change := range []func(m *api.RunMark){
		func(m *api.RunMark) { m.Files = nil }, func(m *api.RunMark) { m.Files = m.Files[:2] }, func(m *api.RunMark) { m.Files = append(m.Files, m.Files[0]) }, func(m *api.RunMark) { m.Files[1].Name = "x" },
		func(m *api.RunMark) { m.Files[2].Records++ }, func(m *api.RunMark) { m.Files[2].Sum++ }, func(m *api.RunMark) { m.Files[0], m.Files[1] = m.Files[1], m.Files[0] }, func(m *api.RunMark) { m.Gen, m.Round, m.Stats.Rounds = 1, 1, 1 },
	} {
		d := base.Copy()
		lieRun(t, d, change)
		if _, e := wheel.Resume(d, bag(t, 1<<16), g, w.prog, 1, w.o); e == api.OK {
			t.Errorf("P12.16: case %d: as if nothing were", i)
		}
		lieRun(t, d, func(m *api.RunMark) { m.Done = true })
		if _, e := result(t, d, "r"); e == api.OK && i > 2 {
			t.Errorf("P12.16: States: case %d: as if nothing were", i)
		}
	}
}

// P12.6, P12.7, P12.15: each operation that fails, once: an error, with nothing left that no manifest names; then the run is gone on with, and comes to the one truth.
func TestRunThatFails(t *testing.T) {
	w := some()
	w.prog.both = true
	w.o.Every = 2
	want, stats, _ := sketched(w.g.N, true, w.edges, w.prog, 9)
	base, g := planted(t, w)
	s := &spy{Volume: base.Copy()}
	wheel.Run(s, bag(t, 1<<16), g, w.prog, 1, w.o)
	for kind, fits := range map[int]string{api.FaultRead: "ReadAt", api.FaultWrite: "Append", api.FaultTorn: "Append", api.FaultSync: "Sync", api.FaultShort: "ReadAt"} {
		for i, line := range s.log {
			if !strings.HasPrefix(line, fits) {
				continue
			}
			d, at := base.Copy(), base.Ops()+int64(i)+1
			d.Plan(api.Fault{Op: at, Kind: kind, N: 7})
			p := bag(t, 1<<16)
			s, e := wheel.Run(d, p, g, w.prog, 1, w.o)
			what := fmt.Sprintf("fault %d at %d", kind, at)
			if p.Used() != 0 || e != api.OK && (e != api.ErrIO || s != api.Stats{}) {
				t.Fatalf("P12.6: %s: %d", what, e)
			}
			if e == api.OK && s != stats {
				t.Fatalf("P12.12: %s: %v", what, s)
			}
			leftOver(t, d, what)
			if e != api.OK {
				if s, e = wheel.Resume(d, p, g, w.prog, 1, w.o); e == api.ErrRun {
					s, e = wheel.Run(d, p, g, w.prog, 1, w.o)
				}
			}
			got, f := result(t, d, "r")
			if e != api.OK || s != stats || f != api.OK || !slices.Equal(got, want) {
				t.Fatalf("P12.12: behind %s: %d %v", what, e, s)
			}
			tidy(t, d, what)
		}
	}
}

// leftOver tells an error, if behind a run that has failed there is a file of it beside its manifest, those that it names, and those of one other generation, which a manifest that failed to be published may name.
func leftOver(t *testing.T, d *platter.Disk, what string) {
	t.Helper()
	gens := map[string]int{}
	for _, name := range runFiles(t, d) {
		if name != "r.run" && !(len(name) == 16 && name[:4] == "r-s-") {
			t.Fatalf("P12.15: %s: %s is left", what, name)
		}
		if name != "r.run" {
			gens[name[:11]]++
		}
	}
	m, e := wheel.Info(d, "r")
	if e == api.OK {
		if n := gens[fmt.Sprintf("r-s-%07d", m.Gen)]; n != len(m.Files) {
			t.Fatalf("P12.15: %s: %d files of the manifest's are left", what, n)
		}
		delete(gens, fmt.Sprintf("r-s-%07d", m.Gen))
	}
	if len(gens) > 1 {
		t.Fatalf("P12.15: %s: %v", what, runFiles(t, d))
	}
}

// P12.7: states of another cut, under a manifest that lies about the graph: as many as the part has, or an error.
func TestResumeOfAnotherCut(t *testing.T) {
	for _, n := range []uint32{7, 12, 30} {
		w := some()
		w.prog.rounds = 6
		w.g.N, w.edges = n, nil
		d, _ := halted(t, w, 2)
		if e := wheel.Uproot(d, "g"); e != api.OK {
			t.Fatal(e)
		}
		g := some().plant(t, d)
		lieRun(t, d, func(m *api.RunMark) { m.GraphSum = g.Sum })
		if _, e := wheel.Resume(d, bag(t, 1<<16), g, w.prog, 1, w.o); e != api.ErrTotal {
			t.Errorf("P12.7: %d vertices' states for 10: %d", n, e)
		}
	}
}
