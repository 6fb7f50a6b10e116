package wheel_test

import (
	"fmt"
	"math/rand/v2"
	"slices"
	"strings"
	"testing"

	"sluice/api"
	"sluice/loom"
	"sluice/platter"
	"sluice/purse"
	"sluice/wheel"
)

// P12.6, P12.13, P12.12: on a volume without faults Run ends as the chapter's rounds do, with the same states, statistics, errors; whatever parts, batches, fan, workers, checkpoints.
func TestRunIsTheChapter(t *testing.T) {
	met := map[api.Errno]int{}
	for seed := range uint64(500) {
		rnd := rand.New(rand.NewPCG(seed, 6))
		w := anyWorld(rnd, 40)
		w.o.Cap = 1 + rnd.IntN(7)
		if rnd.IntN(3) == 0 {
			w.prog.trap, w.prog.odds = 1+rnd.IntN(5), 1+rnd.Uint64N(100)
		}
		want, stats, e := sketched(w.g.N, w.g.Both, w.edges, w.prog, w.o.Cap)
		met[min(e, 122)]++
		d, g := planted(t, w)
		_, enough := wheel.Need(g, w.o, w.prog.words)
		p := bag(t, enough)
		s, f := wheel.Run(d, p, g, w.prog, uint32(seed), w.o)
		if f != e || s != stats || p.Used() != 0 {
			t.Fatalf("P12.6: world %d: %v %d, want %v %d", seed, s, f, stats, e)
		}
		if e == api.OK {
			if got, f := result(t, d, "r"); f != api.OK || !slices.Equal(got, want) {
				t.Fatalf("P12.6: world %d: %v %d, want %v", seed, got, f, want)
			}
		}
		tidy(t, d, fmt.Sprintf("world %d: %d", seed, e))
	}
	if met[api.OK] < 100 || met[api.ErrCap] < 50 || len(met) < 30 {
		t.Errorf("too little was tried: %v", met)
	}
}

// tidy tells an error, if a file of the run is there that its manifest does not name (P12.6, P12.15).
func tidy(t *testing.T, d *platter.Disk, what string) {
	t.Helper()
	want := []string{}
	if m, e := wheel.Info(d, "r"); e == api.OK {
		want = append(want, "r.run")
		for _, f := range m.Files {
			want = append(want, f.Name)
		}
	}
	slices.Sort(want)
	if have := runFiles(t, d); !slices.Equal(have, want) {
		t.Fatalf("P12.6, P12.15: %s: %v, want %v", what, have, want)
	}
}

func runFiles(t *testing.T, d *platter.Disk) []string {
	t.Helper()
	return slices.DeleteFunc(list(t, d), func(name string) bool { return name[0] != 'r' })
}

// running is a call of Run or Resume.
type running struct {
	v    api.Volume
	p    *purse.Purse
	g    api.Graph
	prog api.Program
	code uint32
	o    api.Options
	call func(v api.Volume, p *purse.Purse, g api.Graph, prog api.Program, code uint32, o api.Options) (api.Stats, api.Errno)
}

// step is an error and ways to come to it.
type step struct {
	e     api.Errno
	spoil []func(c *running)
}

// shared are the steps that Run and Resume have in common.
func shared() []step {
	wide, back, sunk := easy(1), easy(1), easy(1)
	wide.words, back.both, sunk.sink.A = 9, true, 4
	none := easy(1)
	none.words = 0
	return []step{
		{api.ErrNil, []func(c *running){func(c *running) { c.v = nil }, func(c *running) { c.p = nil }, func(c *running) { c.prog = nil }}},
		{api.ErrArg, []func(c *running){
			func(c *running) { c.o.Run = "" }, func(c *running) { c.o.Run = "abcdefghijklmnopq" }, func(c *running) { c.o.Run = "r-" }, func(c *running) { c.o.Batch = 15 }, func(c *running) { c.o.Batch = 65537 }, func(c *running) { c.o.Fan = 1 }, func(c *running) { c.o.Fan = 257 },
			func(c *running) { c.o.Workers = 0 }, func(c *running) { c.o.Workers = 17 }, func(c *running) { c.o.Cap = 0 }, func(c *running) { c.o.Cap = 1<<20 + 1 }, func(c *running) { c.o.Every = -1 }, func(c *running) { c.o.Every = 1<<20 + 1 }}},
		{api.ErrProgram, []func(c *running){func(c *running) { c.prog = wide }, func(c *running) { c.prog = sunk }, func(c *running) { c.prog = none }, func(c *running) { c.prog = (*loom.Woven)(nil) }}},
		{api.ErrGraph, []func(c *running){func(c *running) { c.v.Remove("g.graph") }, func(c *running) { c.g.Name = "h" }}},
		{api.ErrOther, []func(c *running){func(c *running) { c.g.Sum++ }, func(c *running) { c.g.N++ }, func(c *running) { c.g.Kind = 3 }, func(c *running) { c.g.Parts-- }, func(c *running) { c.g.Both = !c.g.Both }, func(c *running) { c.g.Edges++ }}},
		{api.ErrBack, []func(c *running){func(c *running) { c.prog = back }}},
	}
}

// inOrder holds each step's error against a call that is spoilt so, alone and with each later step beside it.
func inOrder(t *testing.T, what string, steps []step, fresh func() running) {
	t.Helper()
	for i, first := range steps {
		for k, spoil := range first.spoil {
			for j := i; j < len(steps); j++ {
				c := fresh()
				if j > i {
					steps[j].spoil[0](&c)
				}
				spoil(&c)
				used := c.p.Used()
				s, e := c.call(c.v, c.p, c.g, c.prog, c.code, c.o)
				if e != first.e || s != (api.Stats{}) || c.p.Used() != used {
					t.Errorf("%s: %d (%d) with %d beside: %d", what, first.e, k, steps[j].e, e)
				}
			}
		}
	}
}

// sick is the last of all steps: Start answers an error.
func sick(c *running) {
	if m, ok := c.prog.(mix); ok {
		m.trap, m.odds = 1, 1
		c.prog = m
	}
}

// P12.6: each error of Run by itself, and which goes first.
func TestRunRefuses(t *testing.T) {
	w := some()
	w.g.Both = false
	d, g := planted(t, w)
	fresh := func() running {
		return running{d.Copy(), bag(t, 1<<16), g, w.prog, 1, w.o, wheel.Run}
	}
	least, _ := wheel.Need(g, w.o, w.prog.words)
	steps := append(shared(), []step{
		{api.ErrThere, []func(c *running){func(c *running) { c.v.Create("r.run") }, func(c *running) { put(t, c.v, "r.run", "whatever") }}},
		{api.ErrSpent, []func(c *running){func(c *running) { c.p = bag(t, least-1) }, func(c *running) { purse.Take[uint64](c.p, 1<<16-least+1) }}},
		{api.ErrQuota, []func(c *running){func(c *running) { c.v = refusing(c.v, "List", api.ErrQuota) }, func(c *running) {
			put(t, c.v, "r-s-0000003-0001", "stray")
			put(t, c.v, "r-u-0003", "stray")
			c.v = refusing(c.v, "Remove r-s-0000003-0001", api.ErrQuota)
		}}},
	}...)
	inOrder(t, "P12.6", steps[1:], fresh)
	for _, spoil := range steps[0].spoil {
		c := fresh()
		c.o.Cap = 0
		spoil(&c)
		if _, e := c.call(c.v, c.p, c.g, c.prog, c.code, c.o); e != api.ErrNil {
			t.Errorf("P12.6: %d", e)
		}
	}
	for i, first := range steps {
		if i == 0 {
			continue
		}
		c := fresh()
		sick(&c)
		first.spoil[0](&c)
		if _, e := wheel.Run(c.v, c.p, c.g, c.prog, 1, c.o); e != first.e {
			t.Errorf("P12.6: %d ahead of the program's: %d", first.e, e)
		}
	}
	for _, c := range []struct {
		op string
		e  api.Errno
	}{{"Size g.graph", api.ErrIO}, {"ReadAt g.graph", api.ErrOff}, {"Size r.run", api.ErrIO}} {
		if _, e := wheel.Run(refusing(d.Copy(), c.op, c.e), bag(t, 1<<16), g, w.prog, 1, w.o); e != c.e {
			t.Errorf("P12.6: %s: %d", c.op, e)
		}
	}
	bad := d.Copy()
	bad.Flip("g.graph", 100)
	if _, e := wheel.Run(bad, bag(t, 1<<16), g, w.prog, 1, w.o); e != api.ErrSeal {
		t.Errorf("P12.6: a seal that is broken: %d", e)
	}
	if _, e := wheel.Run(d, bag(t, 1<<16), api.Graph{}, w.prog, 1, w.o); e != api.ErrArg {
		t.Errorf("P12.6: a graph without a name: %d", e)
	}
}

// P12.6: options at their bounds; runs and graphs of the longest name; names that are a graph's, too.
func TestRunAtTheBounds(t *testing.T) {
	w := some()
	w.g.Name = "abcdefghijklmnop"
	d, g := planted(t, w)
	want, stats, _ := sketched(w.g.N, true, w.edges, w.prog, 9)
	for _, o := range []api.Options{
		{Run: "abcdefghijklmnop", Batch: 16, Fan: 2, Workers: 1, Cap: 3, Every: 0},
		{Run: "_", Batch: 65536, Fan: 256, Workers: 16, Cap: 1 << 20, Every: 1 << 20},
		{Run: "0", Batch: 16, Fan: 256, Workers: 16, Cap: 4, Every: 1},
	} {
		s, e := wheel.Run(d, bag(t, 1<<23), g, w.prog, 1<<32-1, o)
		if e != api.OK || s != stats {
			t.Errorf("P12.6: %v: %d %v", o, e, s)
		}
		if got, e := result(t, d, o.Run); e != api.OK || !slices.Equal(got, want) {
			t.Errorf("P12.6: %v: %d %v", o, e, got)
		}
	}
	for _, run := range []string{"abcdefghijklmnop", "_", "0"} {
		if e := wheel.Wipe(d, run); e != api.OK {
			t.Errorf("P12.9: %d", e)
		}
	}
	if n := len(list(t, d)); n != 7 {
		t.Errorf("P12.9: %d files are left", n)
	}
}

// P12.6: the greatest part has at most MaxLength vertices; ErrLong goes ahead of ErrThere and behind ErrBack.
func TestRunOfGreatParts(t *testing.T) {
	d := disk(t)
	back := easy(1)
	back.both = true
	for _, c := range []struct {
		n     uint32
		parts int
		e     api.Errno
	}{{api.MaxLength, 1, api.ErrSpent}, {api.MaxLength + 1, 1, api.ErrLong}, {2*api.MaxLength + 1, 2, api.ErrLong}, {2 * api.MaxLength, 2, api.ErrSpent}, {api.MaxVertices, 512, api.ErrSpent}, {api.MaxVertices, 511, api.ErrLong}} {
		g, e := wheel.Plant(d, bag(t, 1<<16), api.Graph{Name: "h", N: c.n, Kind: api.EPlain, Parts: c.parts}, 16, 2, wheel.Feed(nil))
		if e != api.OK {
			t.Fatal(e)
		}
		if _, e := wheel.Run(d, bag(t, 100), g, easy(1), 1, some().o); e != c.e {
			t.Errorf("P12.6: %v: %d", c, e)
		}
		if c.e == api.ErrLong {
			if _, e := wheel.Run(d, bag(t, 100), g, back, 1, some().o); e != api.ErrBack {
				t.Errorf("P12.6: %d", e)
			}
			if _, e := wheel.Resume(d, bag(t, 100), g, easy(1), 1, some().o); e != api.ErrLong {
				t.Errorf("P12.7: %d", e)
			}
			d.Create("r.run")
			if _, e := wheel.Run(d, bag(t, 100), g, easy(1), 1, some().o); e != api.ErrLong {
				t.Errorf("P12.6: %d", e)
			}
			d.Remove("r.run")
		}
		wheel.Uproot(d, "h")
	}
}

// P12.6: strays of the run are removed first, and nothing else is touched.
func TestRunRemovesStrays(t *testing.T) {
	w := some()
	d, g := planted(t, w)
	for _, name := range []string{"r-s-0000003-0001", "r-s-0000000-0000", "r-s-9999999-9999", "r-u-0000", "r-u-0511", "r.run.new"} {
		put(t, d, name, "stray")
	}
	others := []string{"r-e-0000", "r-r-0000", "r-s-000000-0000", "r-u-000", "r.graph", "r.run2", "rr-u-0000", "q-u-0000", "q.run", "r"}
	for _, name := range others {
		put(t, d, name, "other")
	}
	if _, e := wheel.Run(d, bag(t, 1<<16), g, w.prog, 1, w.o); e != api.OK {
		t.Fatal(e)
	}
	want := append([]string{"g-e-0000", "g-e-0001", "g-e-0002", "g-r-0000", "g-r-0001", "g-r-0002", "g.graph", "r-s-0000003-0000", "r-s-0000003-0001", "r-s-0000003-0002", "r.run"}, others...)
	slices.Sort(want)
	if l := list(t, d); !slices.Equal(l, want) {
		t.Errorf("P12.6: %v, want %v", l, want)
	}
	for _, name := range others {
		if text(t, d, name) != "other" {
			t.Errorf("%s was touched", name)
		}
	}
}

// checkpoints tells the rounds of the manifests that a volume was asked to publish.
func checkpoints(t *testing.T, d *platter.Disk, run func(v api.Volume)) []int {
	t.Helper()
	var rounds []int
	s := &spy{Volume: d}
	published := false
	s.refuse = func(op, name string) api.Errno {
		if published { // the call behind the last one of a publishing
			m, e := wheel.Info(d, "r")
			if e != api.OK {
				t.Fatal("P12.6:", e)
			}
			rounds = append(rounds, m.Round)
			if m.Done {
				rounds = append(rounds, -1)
			}
			for i, f := range m.Files {
				if _, e := d.Size(f.Name); e != api.OK || len(m.Files) != 3 || f.Name != fmt.Sprintf("r-s-%07d-%04d", m.Gen, i) {
					t.Errorf("P12.6: %v", m.Files)
				}
			}
		}
		published = op == "SyncDir" && len(s.log) > 1 && strings.HasPrefix(s.log[len(s.log)-2], "Rename")
		return api.OK
	}
	run(s)
	s.Size("r.run")
	return rounds
}

// P12.6: checkpoints behind Start and behind each multiple of Every that does not end the run, the cap's too.
func TestCheckpoints(t *testing.T) {
	w := some()
	w.prog.rounds = 6
	base, g := planted(t, w)
	for _, c := range []struct {
		every, most int
		want        []int
	}{
		{0, 9, []int{6, -1}}, {1, 9, []int{0, 1, 2, 3, 4, 5, 6, -1}}, {2, 9, []int{0, 2, 4, 6, -1}}, {4, 9, []int{0, 4, 6, -1}}, {6, 6, []int{0, 6, -1}}, {7, 9, []int{0, 6, -1}},
		{0, 5, nil}, {2, 5, []int{0, 2, 4}}, {2, 4, []int{0, 2, 4}}, {5, 5, []int{0, 5}}, {3, 1, []int{0}}, {1 << 20, 1, []int{0}},
	} {
		d, o := base.Copy(), w.o
		o.Every, o.Cap = c.every, c.most
		e := api.OK
		got := checkpoints(t, d, func(v api.Volume) { _, e = wheel.Run(v, bag(t, 1<<16), g, w.prog, 1, o) })
		if !slices.Equal(got, c.want) || (e == api.OK) != (c.most >= 6) || e != api.OK && e != api.ErrCap {
			t.Errorf("P12.6: every %d, cap %d: %v, %d", c.every, c.most, got, e)
		}
		tidy(t, d, "checkpoints")
	}
}

// P12.6, 0.5: ahead of a publishing the state files are closed and synced and the directory is; what an older manifest names goes only behind the newer one.
func TestRunWritesInOrder(t *testing.T) {
	w := some()
	base, g := planted(t, w)
	w.o.Every = 2
	s := &spy{Volume: base}
	if _, e := wheel.Run(s, bag(t, 1<<16), g, w.prog, 1, w.o); e != api.OK {
		t.Fatal(e)
	}
	for gen := range 4 {
		if gen == 1 {
			continue // no manifest names it
		}
		last := slices.Index(s.log, fmt.Sprintf("Sync r-s-%07d-0002", gen))
		made := last + 1 + slices.Index(s.log[last+1:], "Create r.run.new")
		dir := last + 1 + slices.Index(s.log[last+1:], "SyncDir ")
		if last < 0 || dir > made {
			t.Fatalf("P12.6: generation %d: synced at %d, the directory at %d, published at %d", gen, last, dir, made)
		}
		gone := slices.Index(s.log, fmt.Sprintf("Remove r-s-%07d-0000", gen))
		if gen == 3 && gone >= 0 || gen < 3 && gone < 0 {
			t.Errorf("P12.6: generation %d: removed at %d", gen, gone)
		}
		for i, line := range s.log {
			if gen < 3 && i == gone && !slices.Contains(s.log[made+3:i], "Rename r.run.new r.run") {
				t.Errorf("P12.6: %s ahead of a newer manifest", line)
			}
		}
	}
}

// 0.3: errors of programs: the least number of the phase, all of whose calls are made; an error of a file in the same phase goes ahead, wherever it is met.
func TestErrorsOfPrograms(t *testing.T) {
	w := some()
	base, g := planted(t, w)
	for phase := 1; phase <= 5; phase++ {
		prog := w.prog
		prog.trap, prog.odds = phase, 2
		_, _, want := sketched(g.N, true, w.edges, prog, 9)
		if want == api.OK {
			t.Fatal("no error?")
		}
		for workers := 1; workers <= 16; workers++ {
			d, o := base.Copy(), w.o
			o.Workers = workers
			if s, e := wheel.Run(d, bag(t, 1<<16), g, prog, 1, o); e != want || s != (api.Stats{}) {
				t.Errorf("0.3: phase %d: %d, want %d", phase, e, want)
			}
			tidy(t, d, "errors of programs")
		}
		for _, c := range []struct {
			op    string
			phase int // of the first round, or Start: where that is asked of the volume
		}{{"ReadAt g-e-0002", 1}, {"Append r-s-0000000-0002", 1}, {"Sync r-s-0000000-0002", 1}, {"Sync r-u-0002", 2}, {"Append r-s-0000001-0002", 3}, {"Sync r-s-0000001-0002", 3}} {
			d := base.Copy()
			_, e := wheel.Run(refusing(d, c.op, 999), bag(t, 1<<16), g, prog, 1, w.o)
			// An error of Fold comes behind Start already, ahead of the first round.
			if at := phase; phase == 4 && c.phase == 1 || phase != 4 && c.phase <= at {
				if e != 999 {
					t.Errorf("0.3: phase %d with %s refused: %d", phase, c.op, e)
				}
			} else if e != want {
				t.Errorf("0.3: phase %d with %s refused: %d, want %d", phase, c.op, e, want)
			}
			tidy(t, d, "errors of files")
		}
	}
}

// counted counts the calls of a phase whose answers are errors.
type counted struct {
	mix
	folds *[]uint64
}

func (c counted) Fold(ctl api.Ctl, agg api.State, v uint32, s api.State) (api.State, api.Errno) {
	*c.folds = append(*c.folds, uint64(v), agg[0])
	if v%3 == 1 {
		return api.State{1, 2, 3}, api.Errno(500 - v)
	}
	agg[0] += uint64(v) + 1
	return agg, api.OK
}

// 0.3, P12.6: Fold goes over the vertices in rising order, all of them, across parts; one that answers an error leaves the aggregate as it was.
func TestFoldRises(t *testing.T) {
	w := some()
	base, g := planted(t, w)
	var folds []uint64
	_, e := wheel.Run(base, bag(t, 1<<16), g, counted{w.prog, &folds}, 1, w.o)
	want := []uint64{0, 0, 1, 1, 2, 1, 3, 4, 4, 8, 5, 8, 6, 14, 7, 21, 8, 21, 9, 30}
	if e != 493 || !slices.Equal(folds, want) {
		t.Errorf("0.3: %d, %v, want %v", e, folds, want)
	}
	folds = nil
	if _, _, e := wheel.Memory(10, true, w.edges, counted{w.prog, &folds}, 9, 4); e != 493 || !slices.Equal(folds, want) {
		t.Errorf("P12.11: %d, %v", e, folds)
	}
}

// P12.6: a manifest of the graph that names other files than the graph has is told, and so is an edge of another part; none panics.
func TestRunOverManifestsThatLie(t *testing.T) {
	w := some()
	d, g := planted(t, w)
	for i, c := range []struct {
		spoil func(d *platter.Disk)
		e     api.Errno
	}{
		{func(d *platter.Disk) { lie(t, d, func(m *api.GraphMark) { m.Files = m.Files[:5] }) }, api.ErrField},
		{func(d *platter.Disk) { lie(t, d, func(m *api.GraphMark) { m.Files = nil }) }, api.ErrField},
		{func(d *platter.Disk) { lie(t, d, func(m *api.GraphMark) { m.Files[1].Name = "x" }) }, api.ErrField},
		{func(d *platter.Disk) { lie(t, d, func(m *api.GraphMark) { m.Files[1].Records++ }) }, api.ErrTotal},
		{func(d *platter.Disk) { lie(t, d, func(m *api.GraphMark) { m.Files[4].Sum++ }) }, api.ErrTotal},
		{func(d *platter.Disk) { d.Remove("g-r-0002") }, api.ErrNoFile},
		{func(d *platter.Disk) { strange(t, d, g, []api.Edge{{Src: 9, Dst: 0}}) }, api.ErrVertex},
		{func(d *platter.Disk) { strange(t, d, g, []api.Edge{{Src: 0, Dst: 10}}) }, api.ErrVertex},
		{func(d *platter.Disk) { strange(t, d, g, []api.Edge{{Src: 1 << 31, Dst: 1}}) }, api.ErrVertex},
	} {
		d := d.Copy()
		c.spoil(d)
		if s, e := wheel.Run(d, bag(t, 1<<16), g, w.prog, 1, w.o); e != c.e || s != (api.Stats{}) {
			t.Errorf("P12.6, P12.16: case %d: %d", i, e)
		}
		tidy(t, d, "manifests that lie")
	}
}

// spoiler answers an error for its last vertex, in Start or in Apply, with a state beside it that nobody may look at; Fold answers a lesser one for the first vertex.
type spoiler struct {
	mix
	apply bool
}

func (p spoiler) Start(v uint32, d api.Degrees) (api.State, api.Errno) {
	if v == 9 && !p.apply {
		return api.State{666}, 900
	}
	return api.State{uint64(v)}, api.OK
}

func (p spoiler) Apply(c api.Ctl, agg api.State, v uint32, s api.State) (api.State, bool, api.Errno) {
	if v == 9 {
		return api.State{666}, true, 900
	}
	return api.State{100}, true, api.OK
}

func (p spoiler) Fold(c api.Ctl, agg api.State, v uint32, s api.State) (api.State, api.Errno) {
	if s[0] == 666 {
		panic("a state beside an error is looked at")
	}
	if v == 0 && (!p.apply || s[0] == 100) {
		return agg, 100
	}
	return agg, api.OK
}

// 0.3: an error of Start or of Apply ends the run behind that phase, ahead of Fold, wherever the parts' borders are; what is answered beside an error is not looked at.
func TestPhasesInTheirOrder(t *testing.T) {
	for parts := 1; parts <= 10; parts++ {
		w := some()
		w.g.Parts = parts
		d, g := planted(t, w)
		for _, apply := range []bool{false, true} {
			if _, e := wheel.Run(d, bag(t, 1<<16), g, spoiler{w.prog, apply}, 1, w.o); e != 900 {
				t.Errorf("0.3: %d parts: %d", parts, e)
			}
			if _, _, e := wheel.Memory(10, true, w.edges, spoiler{w.prog, apply}, 9, 2); e != 900 {
				t.Errorf("0.3, P12.11: %d", e)
			}
		}
	}
}

// 0.5: another update file in the place of one, with its title: an error, whether it has fewer updates, others, or one to another part.
func TestUpdatesInThePlaceOfOthers(t *testing.T) {
	w := some()
	base, g := planted(t, w)
	for i, c := range []struct {
		change func(us []api.Update) []api.Update
		e      api.Errno
	}{
		{func(us []api.Update) []api.Update { return us }, api.OK},
		{func(us []api.Update) []api.Update { return us[1:] }, api.ErrTotal},
		{func(us []api.Update) []api.Update { return append(us, us[0]) }, api.ErrTotal},
		{func(us []api.Update) []api.Update { us[3].B++; return us }, api.ErrTotal},
		{func(us []api.Update) []api.Update { us[0].To = 9; return us }, api.ErrVertex},
		{func(us []api.Update) []api.Update { us[0].To = 1 << 31; return us }, api.ErrVertex},
	} {
		d := base.Copy()
		s := &spy{Volume: d}
		s.refuse = func(op, name string) api.Errno {
			if op+" "+name == "Sync r-u-0000" {
				exchange(t, d, name, c.change)
			}
			return api.OK
		}
		if _, e := wheel.Run(s, bag(t, 1<<16), g, w.prog, 1, w.o); e != c.e {
			t.Errorf("0.5: case %d: %d, want %d", i, e, c.e)
		}
	}
}
