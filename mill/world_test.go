package mill_test

import (
	"fmt"
	"math/rand/v2"
	"slices"
	"testing"

	"sluice/api"
	"sluice/mill"
)

// shape is how a world is laid down and run: nothing of it may show.
type shape struct {
	format api.Format
	disks  int
	graph  []string // lines of the configuration
	job    []string // lines of the job
}

func anyShape(rnd *rand.Rand, w world) shape {
	pick := func(least, most int) string { return number(least + rnd.IntN(most-least+1)) }
	return shape{
		format: api.FmtBinary + api.Format(rnd.IntN(4)),
		disks:  []int{1, 1, 3, 4, 5, 8}[rnd.IntN(6)],
		graph:  []string{"parts = " + pick(1, int(min(w.n, 6))), "batch = " + pick(16, 80), "fan = " + pick(2, 4)},
		job:    []string{"batch = " + pick(16, 80), "fan = " + pick(2, 4), "workers = " + pick(1, 4), "every = " + pick(0, 3)},
	}
}

// shuffled tells the world with its edges in another order.
func (w world) shuffled(rnd *rand.Rand) world {
	w.edges = slices.Clone(w.edges)
	rnd.Shuffle(len(w.edges), func(i, j int) { w.edges[i], w.edges[j] = w.edges[j], w.edges[i] })
	return w
}

// P19.20, P19.21, P19.24, P19.27, P19.28: each kernel's rows and tells are what it means, whatever the order of edges, the format, parts, buffers, workers and disks; the statistics are the same, and Audit finds them right.
func TestOneTruth(t *testing.T) {
	for seed := range uint64(420) {
		rnd := rand.New(rand.NewPCG(seed, 1924))
		w := anyWorld(rnd, kernelAt(seed), 12)
		want := w.model(t)
		var first api.Outcome
		for try := range 3 {
			what := fmt.Sprintf("seed %d, try %d, %+v", seed, try, w)
			s := anyShape(rnd, w)
			m := openAs(t, api.Setup{Disks: s.disks, Quota: roomy - rnd.Int64N(1<<20), Budget: 20000 + rnd.IntN(wealthy)})
			x := w.shuffled(rnd)
			g, e := m.Load(x.config(s.format, s.graph...), x.input(t, s.format))
			must(t, what, e)
			if g.Edges != int64(len(w.edges)) || g.N != w.n {
				t.Fatalf("P19.3: %s: %+v", what, g)
			}
			o, e := m.Run(w.job(s.job...))
			must(t, "P19.21: "+what, e)
			if try == 0 {
				first = o
			}
			if o != first || o.Tells != want.tells {
				t.Fatalf("P19.24: %s: %+v, want %+v, tells %v", what, o, first, want.tells)
			}
			rows, e := rowsOf(t, m, w.job(s.job...))
			if e != api.OK || !slices.Equal(rows, want.rows) {
				t.Fatalf("P19.20: %s: %d, %q, want %q", what, e, rows, want.rows)
			}
			if v, e := m.Audit(w.job(s.job...)); e != api.OK || !v.Right {
				t.Fatalf("P19.27: %s: %d, %+v", what, e, v)
			}
			still(t, m, what)
		}
	}
}

// play is a world on a machine that fails, over several lives.
type play struct {
	t      *testing.T
	rnd    *rand.Rand
	m      *mill.Mill
	w      world
	want   told
	stats  api.Stats
	graph  []string
	what   string
	steady bool // a checkpoint behind each round, and nothing else at random
	loaded bool // a Load has answered OK
	ends   int
}

func newPlay(t *testing.T, rnd *rand.Rand, m *mill.Mill, w world, what string) *play {
	return &play{t: t, rnd: rnd, m: m, w: w, want: w.model(t), stats: statsOf(t, w), graph: anyShape(rnd, w).graph, what: fmt.Sprintf("%s, %+v", what, w)}
}

// statsOf tells the statistics of a job that nothing befalls.
func statsOf(t testing.TB, w world) api.Stats {
	_, o := done(t, w, w.job())
	return o.Stats
}

// life loads the graph, if it is not there, and begins the job or goes on with it.
func (p *play) life() api.Errno {
	p.t.Helper()
	defer still(p.t, p.m, p.what)
	if e := p.load(); e != api.OK && e != api.ErrThere {
		return e
	}
	job := p.w.job(anyShape(p.rnd, p.w).job...)
	if p.steady {
		job = p.w.job("every = 1")
	}
	o, e := p.m.Resume(job)
	if e == api.ErrRun {
		o, e = p.m.Run(job)
	}
	if e == api.OK && (o.Tells != p.want.tells || o.Stats != p.stats) {
		p.t.Fatalf("P19.20: %s: %+v, want %v, %+v", p.what, o, p.want.tells, p.stats)
	}
	return e
}

// load lays the graph down, in any order of its edges.
func (p *play) load() api.Errno {
	p.t.Helper()
	w := p.w
	if !p.steady {
		w = w.shuffled(p.rnd)
	}
	_, e := w.load(p.t, p.m, p.graph...)
	p.loaded = p.loaded || e == api.OK
	return e
}

// whole is a life to its end: the rows, too.
func (p *play) whole() api.Errno {
	p.t.Helper()
	if e := p.life(); e != api.OK {
		return e
	}
	return p.rows()
}

// revive gives the power back, and asks whether the graph is there.
func (p *play) revive() {
	p.t.Helper()
	for tries := 0; ; tries++ {
		e := p.m.Restart(keeps(p.rnd)...)
		if e == api.OK {
			break
		}
		if tries > 40 {
			p.t.Fatalf("P19.26: %s: Restart: %d", p.what, e)
		}
	}
	before := p.loaded
	if e := p.load(); before && e != api.ErrThere && !isDark(p.m) {
		p.t.Fatalf("P19.26: %s: the graph is gone: %d", p.what, e)
	}
}

// rows reads the rows; if they are told to their end, they must be right.
func (p *play) rows() api.Errno {
	p.t.Helper()
	rows, e := rowsOf(p.t, p.m, p.w.job())
	if e == api.OK && !slices.Equal(rows, p.want.rows) {
		p.t.Fatalf("P19.20: %s: %q, want %q", p.what, rows, p.want.rows)
	}
	if e == api.OK {
		p.ends++
	}
	return e
}

// keeps tells what disks keep, of fewer or of more than there are.
func keeps(rnd *rand.Rand) []api.Keep {
	var l []api.Keep
	for range rnd.IntN(10) {
		k := api.Keep{Dir: rnd.IntN(14) - 1}
		for range rnd.IntN(12) {
			k.Bytes = append(k.Bytes, rnd.Int64N(300)-20)
		}
		l = append(l, k)
	}
	return l
}

// faults tells a plan of any kinds but some.
func faults(rnd *rand.Rand, count int, span int64, kinds ...int) []api.Fault {
	var l []api.Fault
	for range count {
		l = append(l, api.Fault{Op: 1 + rnd.Int64N(1+rnd.Int64N(span)), Kind: kinds[rnd.IntN(len(kinds))], N: rnd.Int64N(5000)})
	}
	return l
}

var anyFault = []int{api.FaultRead, api.FaultShort, api.FaultGhost, api.FaultWrite, api.FaultTorn, api.FaultSync, api.FaultRot, api.FaultOff, api.FaultDown}

// P19.20, P19.23: whatever faults strike, on one disk or on several, power too, however often it is gone on with: what is told to its end is right.
func TestRightOrTold(t *testing.T) {
	ends, lives := 0, 0
	for seed := range uint64(700) {
		rnd := rand.New(rand.NewPCG(seed, 1920))
		w := anyWorld(rnd, kernelAt(seed), 10)
		disks := []int{1, 1, 3, 3, 5}[rnd.IntN(5)]
		var plans [][]api.Fault
		for range disks {
			plans = append(plans, faults(rnd, rnd.IntN(3), 600, anyFault...))
		}
		p := newPlay(t, rnd, open(t, disks, plans...), w, fmt.Sprintf("play %d", seed))
		for range 5 {
			e := p.life()
			lives++
			if e == api.OK {
				e = p.rows()
			}
			if e == api.OK {
				continue
			}
			if mill.Class(e) == api.Fine {
				t.Fatalf("P19.23: %s: %d", p.what, e)
			}
			switch rnd.IntN(4) {
			case 0:
				p.m.Wipe("r")
			case 1:
				p.m.Wipe("r")
				p.m.Uproot("g")
			case 2:
				p.m.Restart(keeps(rnd)...)
			}
		}
		ends += p.ends
	}
	if ends < 1000 || lives-ends < 500 {
		t.Errorf("too little was tried: %d of %d lives ended well", ends, lives)
	}
}

// P19.25: one disk alone has faults, or is exchanged, again and again: all is told, and right.
func TestADiskMayFail(t *testing.T) {
	for seed := range uint64(250) {
		rnd := rand.New(rand.NewPCG(seed, 1925))
		w := anyWorld(rnd, kernelAt(seed), 10)
		disks := 3 + rnd.IntN(6)
		bad := rnd.IntN(disks)
		plans := make([][]api.Fault, disks)
		plans[bad] = faults(rnd, 1+rnd.IntN(6), 800, slices.DeleteFunc(slices.Clone(anyFault), func(k int) bool { return k == api.FaultOff })...)
		p := newPlay(t, rnd, open(t, disks, plans...), w, fmt.Sprintf("play %d: %v", seed, plans))
		for step := range 5 {
			switch rnd.IntN(4) {
			case 0:
				must(t, fmt.Sprintf("P19.25: %s: swap at %d", p.what, step), p.m.Swap(bad))
			case 1:
				must(t, fmt.Sprintf("P19.25: %s: restart at %d", p.what, step), p.m.Restart(keeps(rnd)...))
			case 2:
				p.m.Wipe("r")
			}
			must(t, fmt.Sprintf("P19.25: %s: life at %d", p.what, step), p.life())
			must(t, fmt.Sprintf("P19.25: %s: rows at %d", p.what, step), p.rows())
			if v, e := p.m.Audit(w.job()); e != api.OK || !v.Right {
				t.Fatalf("P19.25: %s: audit at %d: %d, %+v", p.what, step, e, v)
			}
		}
	}
}

// isDark tells whether the power of a disk has gone.
func isDark(m *mill.Mill) bool {
	for i := 0; m.Disk(i) != nil; i++ {
		if !m.Disk(i).Lit() {
			return true
		}
	}
	return false
}

// P19.26: the power goes, of any disk, at any operation, again and again, in Restarts too.
func TestACrashIsNothing(t *testing.T) {
	crashes := 0
	for seed := range uint64(300) {
		rnd := rand.New(rand.NewPCG(seed, 1926))
		w := anyWorld(rnd, kernelAt(seed), 10)
		disks := []int{1, 3, 4, 6}[rnd.IntN(4)]
		var plans [][]api.Fault
		for range disks {
			plans = append(plans, faults(rnd, rnd.IntN(6), 900, api.FaultOff))
		}
		p := newPlay(t, rnd, open(t, disks, plans...), w, fmt.Sprintf("play %d: %v", seed, plans))
		for {
			e := p.whole()
			if e == api.OK {
				break
			}
			if !isDark(p.m) {
				t.Fatalf("P19.26: %s: %d", p.what, e)
			}
			crashes++
			p.revive()
			if disks > 1 && rnd.IntN(3) == 0 {
				if e := p.m.Swap(rnd.IntN(disks)); e != api.OK && !isDark(p.m) {
					t.Fatalf("P19.26: %s: Swap: %d", p.what, e)
				}
			}
		}
	}
	if crashes < 300 {
		t.Errorf("too little was tried: %d crashes", crashes)
	}
}
