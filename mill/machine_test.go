package mill_test

import (
	"bytes"
	"fmt"
	"maps"
	"math"
	"math/rand/v2"
	"slices"
	"testing"

	"sluice/api"
	"sluice/mill"
	"sluice/platter"
	"sluice/stripe"
)

// disksOf tells all disks.
func disksOf(m *mill.Mill) (l []*platter.Disk) {
	for i := 0; m.Disk(i) != nil; i++ {
		l = append(l, m.Disk(i))
	}
	return l
}

// opsOf tells how many operations each disk has made.
func opsOf(m *mill.Mill) (l []int64) {
	for _, d := range disksOf(m) {
		l = append(l, d.Ops())
	}
	return l
}

// contents tells a disk's files, by a copy: nothing is counted.
func contents(t testing.TB, d *platter.Disk) map[string][]byte {
	t.Helper()
	d = d.Copy()
	d.Mend()
	l, e := d.List()
	must(t, "List", e)
	files := map[string][]byte{}
	for _, name := range l {
		size, _ := d.Size(name)
		files[name] = make([]byte, size)
		d.ReadAt(name, 0, files[name])
	}
	return files
}

// small is a graph and a job over it.
func small() world {
	return world{ask: askOf("wcc"), n: 4, kind: api.EPlain, both: true, edges: between(3, 1, 2, 2, 0, 1)}
}

// P19, the machine: as soon as one disk is without power, all are: no operation is made any more, and none has a number, till Restart.
func TestPowerOfAll(t *testing.T) {
	w := small()
	for _, disks := range []int{1, 3, 5} {
		for struck := range disks {
			for at := int64(1); ; at += 3 {
				plans := make([][]api.Fault, disks)
				plans[struck] = []api.Fault{{Op: at, Kind: api.FaultOff}}
				m := open(t, disks, plans...)
				made := opsOf(m)
				if _, e := w.load(t, m); e == api.OK && at > 12 {
					break
				} else if e != api.ErrOff {
					t.Fatalf("the power of %d of %d at %d: %d", struck, disks, at, e)
				}
				behind := opsOf(m)
				if behind[struck] != made[struck]+at {
					t.Errorf("the power of %d of %d at %d: %v operations behind %v", struck, disks, at, behind, made)
				}
				_, load := w.load(t, m)
				_, run := m.Run(w.job())
				for i, e := range []api.Errno{load, run, m.Wipe("r"), m.Uproot("g"), m.Swap(0)} {
					if e == api.OK || disks == 1 && i < 4 && e != api.ErrOff {
						t.Errorf("without power: call %d: %d", i, e)
					}
				}
				if now := opsOf(m); !slices.Equal(now, behind) {
					t.Errorf("without power operations are made: %v behind %v", now, behind)
				}
				must(t, "P19.9", m.Restart())
				if _, e := w.load(t, m); e != api.OK && e != api.ErrThere {
					t.Errorf("P19.9: behind a Restart: %d", e)
				}
			}
		}
	}
}

// P19.9: each disk is restarted with its Keep, missing ones with nothing, and mended; then the stripe is opened anew: just that.
func TestRestartKeeps(t *testing.T) {
	differ := 0
	for seed := range uint64(120) {
		rnd := rand.New(rand.NewPCG(seed, 199))
		disks := []int{1, 3, 4}[rnd.IntN(3)]
		plans := make([][]api.Fault, disks)
		plans[rnd.IntN(disks)] = []api.Fault{{Op: 1 + rnd.Int64N(20), Kind: []int{api.FaultOff, api.FaultDown}[rnd.IntN(2)]}}
		m := open(t, disks, plans...)
		small().load(t, m)
		keep := keeps(rnd)
		var twins []*platter.Disk
		var members []api.Volume
		for i, d := range disksOf(m) {
			var k api.Keep
			if i < len(keep) {
				k = keep[i]
			}
			twin := d.Copy()
			twin.Restart(k.Dir, k.Bytes...)
			twin.Mend()
			twins, members = append(twins, twin), append(members, twin)
			bare := d.Copy()
			bare.Restart(0)
			if !maps.EqualFunc(contents(t, bare), contents(t, twin), bytes.Equal) {
				differ++
			}
		}
		if disks > 1 {
			_, e := stripe.Open(members...)
			must(t, "Open", e)
		}
		must(t, "P19.9", m.Restart(keep...))
		for i, d := range disksOf(m) {
			if !d.Lit() || !maps.EqualFunc(contents(t, d), contents(t, twins[i]), bytes.Equal) {
				t.Errorf("P19.9: seed %d: disk %d of %d is not as its Keep of %v says", seed, i, disks, keep)
			}
		}
	}
	if differ < 50 {
		t.Errorf("too little was tried: %d", differ)
	}
}

// P19.9: which Keep is whose: a file of a disk that is not synced, made by hand beside the stripe's, has just the bytes that its disk's Keep says.
func TestWhoseKeep(t *testing.T) {
	for _, disks := range []int{1, 3, 5} {
		for said := range disks + 2 {
			m := open(t, disks)
			var keep []api.Keep
			for i, d := range disksOf(m) {
				must(t, "Create", d.Create("zz")) // the last one by name
				must(t, "SyncDir", d.SyncDir())
				must(t, "Append", d.Append("zz", make([]byte, 99)))
				_, files := d.Used()
				if i < said {
					keep = append(keep, api.Keep{Bytes: append(make([]int64, files-1), int64(10+i))})
				}
			}
			for len(keep) < said {
				keep = append(keep, api.Keep{Dir: 7, Bytes: []int64{7}})
			}
			must(t, "P19.9", m.Restart(keep...))
			for i, d := range disksOf(m) {
				want := int64(0)
				if i < said {
					want = int64(10 + i)
				}
				if size, e := d.Size("zz"); e != api.OK || size != want {
					t.Errorf("P19.9: %d Keeps for %d disks: disk %d has kept %d, want %d", said, disks, i, size, want)
				}
			}
		}
	}
}

// P19.9: what is handed to Restart is not changed.
func TestKeepsAreTheCallers(t *testing.T) {
	numbers := []int64{5, 6, 7}
	m := open(t, 3)
	must(t, "P19.9", m.Restart(api.Keep{Dir: math.MaxInt, Bytes: numbers[:1]}, api.Keep{Dir: math.MinInt, Bytes: numbers[:2]}, api.Keep{}, api.Keep{Dir: 4}, api.Keep{Bytes: []int64{math.MinInt64, math.MaxInt64}}))
	if !slices.Equal(numbers, []int64{5, 6, 7}) {
		t.Error("P0.1", numbers)
	}
}

// lostCalls calls all that needs the volume, with what may be and with what may not.
func lostCalls(t testing.TB, m *mill.Mill, w world) map[string]api.Errno {
	t.Helper()
	l := map[string]api.Errno{"Wipe": m.Wipe("r"), "Wipe of none": m.Wipe("R"), "Uproot": m.Uproot("g"), "Swap": m.Swap(0), "Swap of none": m.Swap(99)}
	_, l["Load"] = w.load(t, m)
	_, l["Load of too much"] = m.Load("?", make([]byte, api.MaxInput+1))
	_, l["Run"] = m.Run(w.job())
	_, l["Run of none"] = m.Run("")
	_, l["Resume"] = m.Resume(w.job())
	_, l["Rows"] = m.Rows(w.job())
	_, l["Audit"] = m.Audit(w.job())
	return l
}

// P19.9: the error of a stripe's opening is Restart's answer, and that of all calls that need the volume, till another Restart.
func TestStripeIsNotOpened(t *testing.T) {
	w := small()
	m := open(t, 3)
	_, e := w.load(t, m)
	must(t, "P19.3", e)
	_, e = m.Run(w.job())
	must(t, "P19.4", e)
	d := m.Disk(1)
	must(t, "Plan", d.Plan(api.Fault{Op: d.Ops() + 2, Kind: api.FaultOff}))
	want := m.Restart()
	if want != api.ErrOff && want != api.ErrTwo {
		t.Fatalf("P19.9: power that goes in a Restart: %d", want)
	}
	ops := opsOf(m)
	for name, e := range lostCalls(t, m, w) {
		if e != want {
			t.Errorf("P19.9: %s behind it: %d, want %d", name, e, want)
		}
	}
	if _, used, _ := m.Purse(); used != 0 || m.Disk(0) == nil || m.Teach("p", "program p;") != api.OK || m.Script("purse\n") == "" {
		t.Error("P19.9: what needs no volume")
	}
	if now := opsOf(m); !slices.Equal(now, ops) {
		t.Errorf("P19.9: operations on disks that are no stripe: %v behind %v", now, ops)
	}
	must(t, "P19.9: another Restart", m.Restart())
	if rows, e := rowsOf(t, m, w.job()); e != api.OK || !slices.Equal(rows, w.model(t).rows) {
		t.Errorf("P19.26: %d, %q", e, rows)
	}
	for i := range 2 { // by hand: two of three are blank
		must(t, "Wipe", stripe.Wipe(m.Disk(i)))
	}
	for range 2 {
		if e := m.Restart(); e != api.ErrTwo {
			t.Errorf("P19.9: two blank disks: %d", e)
		}
		for name, e := range lostCalls(t, m, w) {
			if e != api.ErrTwo {
				t.Errorf("P19.9: %s behind it: %d", name, e)
			}
		}
		if s := m.Script("restart\n\nwipe r\nswap 0\npurse\n"); s[:len("error 51 5\nerror 51 5\nerror 51 5\nok 0 ")] != "error 51 5\nerror 51 5\nerror 51 5\nok 0 " {
			t.Errorf("P19.10: %q", s)
		}
	}
}

// P19.9, P19.25: each disk is exchanged, one behind the other; the new one is blank but for what it was given, has no faults, and the quota of the others.
func TestSwap(t *testing.T) {
	w := small()
	for _, disks := range []int{3, 4, 8} {
		plans := make([][]api.Fault, disks)
		plans[1] = []api.Fault{{Op: 3000, Kind: api.FaultDown}} // of the old one
		m := open(t, disks, plans...)
		_, e := w.load(t, m)
		must(t, "P19.3", e)
		_, e = m.Run(w.job())
		must(t, "P19.4", e)
		for i := range disks {
			old := disksOf(m)
			must(t, "P19.9", m.Swap(i))
			for j, d := range disksOf(m) {
				if (d == old[j]) == (i == j) {
					t.Errorf("P19.9: swap of %d: disk %d", i, j)
				}
			}
			if rows, e := rowsOf(t, m, w.job()); e != api.OK || !slices.Equal(rows, w.model(t).rows) {
				t.Errorf("P19.25: behind a swap of %d of %d: %d, %q", i, disks, e, rows)
			}
			fresh := m.Disk(i).Copy()
			used, _ := fresh.Used()
			fresh.Create("x")
			if fresh.Append("x", make([]byte, roomy-used)) != api.OK || fresh.Append("x", []byte{1}) != api.ErrQuota {
				t.Error("P19.9: the quota of a new disk")
			}
		}
		for range 3000 { // by hand: the plan of the old one is gone
			m.Disk(1).Size("x")
		}
		must(t, "P19.9", m.Restart())
		if rows, e := rowsOf(t, m, w.job()); e != api.OK || !slices.Equal(rows, w.model(t).rows) {
			t.Errorf("P19.25: %d, %q", e, rows)
		}
	}
}

// P19.9: Swap of a disk that there is not, and of a disk alone.
func TestSwapOfNone(t *testing.T) {
	for _, disks := range []int{1, 3, 8} {
		m := open(t, disks)
		for _, i := range []int{-1, disks, math.MinInt, math.MaxInt} {
			if e := m.Swap(i); e != api.ErrArg {
				t.Errorf("P19.9: swap of %d of %d: %d", i, disks, e)
			}
		}
	}
	if e := open(t, 1).Swap(0); e != api.ErrArg {
		t.Errorf("P19.9: swap of a disk alone: %d", e)
	}
}

// P19.9: behind a Swap that is refused the old disk is in its place still.
func TestSwapRefused(t *testing.T) {
	w := small()
	m := open(t, 3)
	_, e := w.load(t, m)
	must(t, "P19.3", e)
	down := m.Disk(2)
	must(t, "Plan", down.Plan(api.Fault{Op: down.Ops() + 1, Kind: api.FaultDown}))
	_, e = m.Run(w.job()) // disk 2 is out
	must(t, "P19.25", e)
	before := disksOf(m)
	if e := m.Swap(0); e != api.ErrTwo {
		t.Errorf("P19.9: swap of a disk beside one that is out: %d", e)
	}
	if !slices.Equal(before, disksOf(m)) {
		t.Error("P19.9: a disk was exchanged")
	}
	if rows, e := rowsOf(t, m, w.job()); e != api.OK || !slices.Equal(rows, w.model(t).rows) {
		t.Errorf("P19.25: %d, %q", e, rows)
	}
	must(t, "P19.9: swap of the one that is out", m.Swap(2))
	must(t, "P19.9: then of another", m.Swap(0))
	if rows, e := rowsOf(t, m, w.job()); e != api.OK || !slices.Equal(rows, w.model(t).rows) {
		t.Errorf("P19.25: %d, %q", e, rows)
	}
}

// P19.9, P19.26: the power goes at each operation of a Swap: it is refused, the old disk is in its place, and behind a Restart all is there.
func TestPowerInSwap(t *testing.T) {
	w := small()
	for other := range 3 {
		for at := int64(1); ; at++ {
			m := open(t, 3)
			_, e := w.load(t, m)
			must(t, "P19.3", e)
			_, e = m.Run(w.job())
			must(t, "P19.4", e)
			before := disksOf(m)
			d := m.Disk(other)
			must(t, "Plan", d.Plan(api.Fault{Op: d.Ops() + at, Kind: api.FaultOff}))
			if e := m.Swap(1); e == api.OK {
				if m.Disk(1) == before[1] {
					t.Error("P19.9: a Swap that was answered OK")
				}
				break
			} else if e != api.ErrOff || !slices.Equal(before, disksOf(m)) {
				t.Fatalf("P19.9: power of %d off at %d of a Swap: %d", other, at, e)
			}
			rnd := rand.New(rand.NewPCG(uint64(at), uint64(other)))
			must(t, fmt.Sprintf("P19.26: power of %d off at %d of a Swap", other, at), m.Restart(keeps(rnd)...))
			if rows, e := rowsOf(t, m, w.job()); e != api.OK || !slices.Equal(rows, w.model(t).rows) {
				t.Fatalf("P19.26: power of %d off at %d of a Swap: %d, %q", other, at, e, rows)
			}
			must(t, "P19.9", m.Swap(1))
			must(t, "P19.25: then of another", m.Swap(2))
		}
	}
}

// P19.9: Restart mends: a disk that is down, alone or among others, is there again.
func TestRestartMends(t *testing.T) {
	w := small()
	for _, disks := range []int{1, 3} {
		m := open(t, disks)
		_, e := w.load(t, m)
		must(t, "P19.3", e)
		for _, d := range disksOf(m) {
			must(t, "Plan", d.Plan(api.Fault{Op: d.Ops() + 1, Kind: api.FaultDown}))
		}
		if _, e := m.Run(w.job()); e == api.OK {
			t.Error("disks that are down")
		}
		must(t, "P19.9", m.Restart())
		_, e = m.Run(w.job())
		must(t, "P19.9", e)
	}
}

// P19.26: the power goes at every operation of each disk in turn, with any Keeps: in a Load, a Run with checkpoints, and the rows.
func TestPowerAtEachOperation(t *testing.T) {
	w := small()
	want := w.model(t)
	for _, disks := range []int{1, 3} {
		for struck := range disks {
			for step := int64(2); ; step++ {
				at := step / 2 // each twice
				rnd := rand.New(rand.NewPCG(uint64(step), uint64(10*disks+struck)))
				plans := make([][]api.Fault, disks)
				plans[struck] = []api.Fault{{Op: at, Kind: api.FaultOff}, {Op: at + 1 + rnd.Int64N(100), Kind: api.FaultOff}}
				p := newPlay(t, rnd, open(t, disks, plans...), w, fmt.Sprintf("power of %d of %d off at %d", struck, disks, at))
				p.steady = true
				e := p.whole()
				if e == api.OK {
					break
				}
				p.revive()
				for lives := 0; ; lives++ {
					if e := p.whole(); e == api.OK {
						break
					} else if lives > 1 || !isDark(p.m) {
						t.Fatalf("P19.26: %s: %d", p.what, e)
					}
					p.revive()
				}
				if o, e := p.m.Resume(w.job()); (e != api.OK || o.Tells != want.tells) && !isDark(p.m) {
					t.Fatalf("P19.26: %s: %d, %+v", p.what, e, o)
				}
			}
		}
	}
}
