package mill_test

import (
	"fmt"
	"math/rand/v2"
	"slices"
	"strings"
	"testing"

	"sluice/api"
	"sluice/mill"
	"sluice/wheel"
)

// roundsOf tells within how many rounds a kernel's chapter says that it is done.
func (w world) roundsOf() int {
	n := int(w.n)
	switch w.kernel {
	case "sssp":
		return n + 1
	case "kcore":
		return 2*n + 1
	case "pagerank":
		return int(w.number("rounds", "20"))
	case "anf":
		return int(w.number("rounds", "10"))
	case "spmv", "conductance":
		return 1
	case "scc":
		return n * (2*n + 4)
	case "topo":
		return n + 2
	case "twocolour":
		return 3*n + 6
	}
	return n
}

// P19.21, P19.22, P19.23: with just the room and the words that P12.1, P12.4 and P12.5 name, and just the rounds of the kernel's chapter as the cap, it comes.
func TestItComes(t *testing.T) {
	for seed := range uint64(280) {
		rnd := rand.New(rand.NewPCG(seed, 1921))
		w := anyWorld(rnd, kernelAt(seed), 14)
		what := fmt.Sprintf("P19.21: seed %d: %+v", seed, w)
		parts, batch, fan, every := 1+rnd.IntN(int(min(w.n, 5))), 16+rnd.IntN(40), 2+rnd.IntN(5), rnd.IntN(3)
		g := api.Graph{Name: "g", N: w.n, Kind: w.kind, Parts: parts, Both: w.both, Edges: int64(len(w.edges))}
		o := api.Options{Run: "r", Batch: batch, Fan: fan, Workers: 1, Cap: w.roundsOf(), Every: every}
		_, enough := wheel.Need(g, o, 8)
		words := max(enough, 40*batch+8*parts+4096)
		record := 36
		if w.both {
			record = 72
		}
		room := int64(record*len(w.edges)+400*parts+131072) + wheel.Room(g, o, 8)
		m := openAs(t, api.Setup{Disks: 1, Quota: room, Budget: words})
		_, e := w.load(t, m, "parts = "+number(parts), "batch = "+number(batch), "fan = "+number(fan))
		must(t, what, e)
		job := w.job("cap = "+number(w.roundsOf()), "batch = "+number(batch), "fan = "+number(fan), "every = "+number(every))
		out, e := m.Run(job)
		must(t, what, e)
		if out.Stats.Rounds > w.roundsOf() {
			t.Errorf("%s: %d rounds", what, out.Stats.Rounds)
		}
		if rows, e := rowsOf(t, m, job); e != api.OK || !slices.Equal(rows, w.model(t).rows) {
			t.Errorf("%s: %d, %q", what, e, rows)
		}
		still(t, m, what)
	}
}

// P19.22, P19.20: any budget and any quota: never is more out than there is, nothing stays out, and what is told to its end is right; if it is not, it is the purse or the disks that are too small.
func TestAnyBudgetAndQuota(t *testing.T) {
	ends, small, full := 0, 0, 0
	for seed := range uint64(700) {
		rnd := rand.New(rand.NewPCG(seed, 1922))
		w := anyWorld(rnd, kernelAt(seed), 12)
		s := anyShape(rnd, w)
		what := fmt.Sprintf("seed %d: %+v", seed, w)
		setup := api.Setup{Disks: s.disks, Quota: rnd.Int64N(1 << (10 + rnd.IntN(9))), Budget: rnd.IntN(1 << (5 + rnd.IntN(11)))}
		m, e := mill.New(setup)
		if e == api.ErrQuota && s.disks > 1 {
			continue
		}
		must(t, what, e)
		failed := func(e api.Errno) bool {
			still(t, m, what)
			switch mill.Class(e) {
			case api.Fine:
				return false
			case api.TooSmall:
				small++
			case api.DiskFull:
				full++
			default: // a stripe whose clearing away found no room takes no more
				if s.disks == 1 || e != api.ErrHalf {
					t.Fatalf("P19.23: %s: %d", what, e)
				}
			}
			return true
		}
		if _, e := m.Load(w.config(s.format, s.graph...), w.input(t, s.format)); failed(e) {
			continue
		}
		if _, e := m.Run(w.job(s.job...)); failed(e) {
			continue
		}
		rows, e := rowsOf(t, m, w.job(s.job...))
		if failed(e) {
			continue
		}
		if !slices.Equal(rows, w.model(t).rows) {
			t.Fatalf("P19.20: %s: %q", what, rows)
		}
		if v, e := m.Audit(w.job(s.job...)); !failed(e) && !v.Right {
			t.Fatalf("P19.27: %s: %+v", what, v)
		}
		ends++
	}
	if ends < 50 || small < 50 || full < 50 {
		t.Errorf("too little was tried: %d ends, %d purses and %d disks that were too small", ends, small, full)
	}
}

// P19.22: what a table holds that is open is all that is out behind a call.
func TestNothingIsOut(t *testing.T) {
	m, w := ringed(t, 1)
	x := table(t, m, w)
	some(x, 99)
	if _, used, _ := m.Purse(); used == 0 {
		t.Error("P19.6: a table holds what it leased till it is closed")
	}
	must(t, "P19.6", x.Close())
	still(t, m, "P19.22")
}

// P19.22: on one disk no byte of an edge file is read twice in a round.
func TestEdgesAreReadOnceARound(t *testing.T) {
	for seed := range uint64(84) {
		rnd := rand.New(rand.NewPCG(seed, 19220))
		w := anyWorld(rnd, kernelAt(seed), 14)
		s := anyShape(rnd, w)
		m := open(t, 1)
		_, e := w.load(t, m, s.graph...)
		must(t, "P19.3", e)
		must(t, "Clear", m.Disk(0).Clear())
		o, e := m.Run(w.job(s.job...))
		must(t, "P19.4", e)
		for _, f := range m.Disk(0).Stats() {
			isEdges := strings.HasPrefix(f.Name, "g-e-") || strings.HasPrefix(f.Name, "g-r-")
			if passes := int64(o.Stats.Rounds + 1); isEdges && (f.ReadBytes > f.Size*passes || f.Seeks > passes) {
				t.Errorf("P19.22: seed %d, %s: %+v in %d rounds", seed, f.Name, f, o.Stats.Rounds)
			}
		}
	}
}

// shaken tells a text with some bytes, or some lines, otherwise.
func shaken(rnd *rand.Rand, text string) string {
	b := []byte(text)
	for range rnd.IntN(4) {
		if len(b) == 0 {
			break
		}
		i := rnd.IntN(len(b))
		switch rnd.IntN(4) {
		case 0:
			b[i] = byte(rnd.IntN(256))
		case 1:
			b = slices.Delete(b, i, min(len(b), i+1+rnd.IntN(9)))
		case 2:
			b = slices.Insert(b, i, []byte([]string{"\n", ".\n", " ", "-", "9", "[x]\n", "arg.k = 1\n", "\n.\nrestart\n", "=", "#"}[rnd.IntN(10)])...)
		default:
			b = slices.Insert(b, i, b[i:min(len(b), i+rnd.IntN(20))]...)
		}
	}
	return string(b)
}

// P19.23: whatever the texts are, each call ends; without faults, with room and words enough, never is it the disks, the power or the purse; and P19.22.
func TestWhateverIsAsked(t *testing.T) {
	kinds := map[api.Class]int{}
	for seed := range uint64(400) {
		rnd := rand.New(rand.NewPCG(seed, 1923))
		m := open(t, []int{1, 1, 1, 3}[rnd.IntN(4)])
		w := anyWorld(rnd, kernelAt(seed), 8)
		m.Teach("p", shaken(rnd, sisters()["bfs"].text))
		_, taught := w.load(t, m)
		must(t, "P19.3", taught)
		for range 12 {
			a := w.ask
			if rnd.IntN(4) == 0 {
				a = askOf("code", "program", "p", "arg.source", number(rnd.IntN(9)))
			}
			f := api.FmtBinary + api.Format(rnd.IntN(4))
			job, config, input := shaken(rnd, a.jobOf([]string{"r", "s"}[rnd.IntN(2)], "g", "cap = 300")), shaken(rnd, w.config(f)), shaken(rnd, string(w.input(t, f)))
			var e api.Errno
			switch rnd.IntN(8) {
			case 0:
				_, e = m.Load(config, []byte(input))
			case 1:
				_, e = m.Run(job)
			case 2:
				_, e = m.Resume(job)
			case 3:
				_, e = rowsOf(t, m, job)
			case 4:
				_, e = m.Audit(job)
			case 5:
				e = m.Wipe(shaken(rnd, "r"))
			case 6:
				e = m.Uproot(shaken(rnd, "h"))
			default:
				answer := m.Script(shaken(rnd, "load\n"+config+".\n"+input+"\n.\nrun\n"+job+".\nrows\n"+job+".\naudit\n"+job+".\nwipe r\n"))
				for _, class := range []api.Class{api.TooSmall, api.DiskFull, api.IOFault, api.Corrupt, api.PowerOff} {
					if strings.Contains(answer, fmt.Sprintf(" %d\n", class)) && strings.Contains(answer, "error") {
						for _, line := range strings.Split(answer, "\n") {
							if strings.HasPrefix(line, "error") && strings.HasSuffix(line, fmt.Sprintf(" %d", class)) {
								t.Fatalf("P19.23: seed %d: %q", seed, answer)
							}
						}
					}
				}
			}
			class := mill.Class(e)
			kinds[class]++
			if (class == api.Fine) != (e == api.OK) || class == api.TooSmall || class == api.DiskFull || class == api.IOFault || class == api.Corrupt || class == api.PowerOff {
				t.Fatalf("P19.23: seed %d: %d", seed, e)
			}
			still(t, m, fmt.Sprintf("seed %d", seed))
		}
	}
	if kinds[api.Fine] < 300 || kinds[api.BadConfig] < 300 || kinds[api.BadInput] < 30 {
		t.Errorf("too little was tried: %v", kinds)
	}
}

// P19.20, P19.26: graphs and runs whose names begin one another: what is done to one never shows in another, on one disk and on several, through crashes.
func TestNamesThatBeginOneAnother(t *testing.T) {
	titles := []string{"a", "a_", "aa", "a0", "a_b", "a_b_c", "aaaaaaaaaaaaaaaa", "aaaaaaaaaaaaaaa"}
	for seed := range uint64(12) {
		rnd := rand.New(rand.NewPCG(seed, 19))
		m := open(t, []int{1, 3}[seed%2])
		worlds := map[string]world{}
		for _, name := range titles {
			w := anyWorld(rnd, builtIn[rnd.IntN(len(builtIn))], 8)
			worlds[name] = w
			_, e := m.Load(strings.Replace(w.config(api.FmtBinary, "parts = 1"), "name = g", "name = "+name, 1), w.input(t, api.FmtBinary))
			must(t, "P19.3", e)
		}
		check := func() {
			t.Helper()
			for name, w := range worlds {
				job := w.jobOf(name, name, "every = 1")
				_, e := m.Resume(job)
				if e == api.ErrRun {
					_, e = m.Run(job)
				}
				must(t, "P19.4", e)
				if rows, e := rowsOf(t, m, job); e != api.OK || !slices.Equal(rows, w.model(t).rows) {
					t.Fatalf("P19.20: seed %d, %s: %d, %q", seed, name, e, rows)
				}
			}
		}
		check()
		for _, name := range titles {
			switch rnd.IntN(3) {
			case 0:
				must(t, "P19.8", m.Wipe(name))
			case 1:
				must(t, "P19.8", m.Uproot(name))
				w := worlds[name]
				if rows, e := rowsOf(t, m, w.jobOf(name, name)); e != api.ErrGraph {
					t.Fatalf("P19.8: %s: %d, %q", name, e, rows)
				}
				_, e := m.Load(strings.Replace(w.config(api.FmtBinary, "parts = 1"), "name = g", "name = "+name, 1), w.input(t, api.FmtBinary))
				must(t, "P19.3", e)
			default:
				must(t, "P19.9", m.Restart(keeps(rnd)...))
			}
			check()
		}
	}
}
