package wheel_test

import (
	"fmt"
	"math/rand/v2"
	"slices"
	"strings"
	"testing"

	"sluice/api"
	"sluice/platter"
	"sluice/purse"
	"sluice/stripe"
	"sluice/wheel"
)

// play is a world on a volume that fails, over several lives.
type play struct {
	t    *testing.T
	rnd  *rand.Rand
	w    world
	v    api.Volume
	bag  *purse.Purse
	what string
	deep bool // the last run had made a file
}

// graph finds the graph, or plants it. One that can't be read is removed.
func (p *play) graph() (api.Graph, api.Errno) {
	g, e := wheel.Find(p.v, "g")
	switch e {
	case api.OK:
		return g, e
	case api.ErrGraph:
	case api.ErrIO, api.ErrOff:
		return g, e
	default:
		if e := wheel.Uproot(p.v, "g"); e != api.OK {
			return g, e
		}
	}
	edges := slices.Clone(p.w.edges) // in whatever order
	p.rnd.Shuffle(len(edges), func(i, j int) { edges[i], edges[j] = edges[j], edges[i] })
	return wheel.Plant(p.v, p.bag, p.w.g, 16+p.rnd.IntN(30), 2+p.rnd.IntN(3), wheel.Feed(edges))
}

// life finds the graph or plants it, begins the run or goes on with it.
func (p *play) life() (api.Stats, api.Errno) {
	g, e := p.graph()
	if e != api.OK {
		return api.Stats{}, e
	}
	o := anyOptions(p.rnd)
	o.Cap = 99
	v := &spy{Volume: p.v}
	s, e := wheel.Resume(v, p.bag, g, p.w.prog, 1, o)
	if e == api.ErrRun {
		s, e = wheel.Run(v, p.bag, g, p.w.prog, 1, o)
	}
	p.deep = slices.ContainsFunc(v.log, func(line string) bool { return strings.HasPrefix(line, "Create r-") })
	if p.bag.Used() != 0 {
		p.t.Fatalf("P12.6: %s: leases", p.what)
	}
	return s, e
}

// anew removes all: what was turned for good is found each time.
func (p *play) anew() {
	wheel.Wipe(p.v, "r")
	wheel.Uproot(p.v, "g")
}

// right holds what a run with OK has come to against the chapter's rounds. A result that is read wrongly must be told.
func (p *play) right(s api.Stats, calm bool) {
	p.t.Helper()
	want, stats, _ := sketched(p.w.g.N, p.w.g.Both, p.w.edges, p.w.prog, 99)
	if s != stats {
		p.t.Fatalf("P12.12: %s: %v, want %v", p.what, s, stats)
	}
	got, e := result(p.t, p.v, "r")
	if e == api.OK && !slices.Equal(got, want) {
		p.t.Fatalf("P12.12: %s: %v, want %v", p.what, got, want)
	}
	if calm && e != api.OK {
		p.t.Fatalf("P12.12: %s: %d", p.what, e)
	}
}

// P12.12, P12.13, P12.15, P12.17: faults of any kind at any operation, power that goes, whatever is kept; any number of lives with any options: what ends with OK is the one truth, and behind the faults every run comes to its end.
func TestPlays(t *testing.T) {
	ends, lives, left := 0, 0, 0
	for seed := range uint64(800) {
		rnd := rand.New(rand.NewPCG(seed, 1217))
		w := anyWorld(rnd, 12)
		d := disk(t)
		p := &play{t: t, rnd: rnd, w: w, v: d, bag: bag(t, 1<<16), what: fmt.Sprintf("play %d", seed)}
		for range 6 {
			p.deep = false
			before := d.Ops()
			for range 1 + rnd.IntN(3) {
				d.Plan(api.Fault{Op: before + 1 + rnd.Int64N(1+rnd.Int64N(400)), Kind: 1 + rnd.IntN(9), N: rnd.Int64N(3000)})
			}
			s, e := p.life()
			lives++
			if e == api.OK {
				ends++
				p.right(s, false)
			} else if d.Lit() && p.deep {
				if calm := spent(d); calm.Lit() {
					left++
					leftOver(t, calm, p.what)
				}
			}
			if e != api.OK && e != api.ErrIO && d.Lit() && rnd.IntN(2) == 0 {
				p.anew()
			}
			if !d.Lit() || rnd.IntN(4) == 0 {
				d.Restart(rnd.IntN(12)-1, keeps(rnd)...)
				d.Mend()
			}
		}
		d = spent(d)
		p.v = d
		if !d.Lit() {
			d.Restart(rnd.IntN(12)-1, keeps(rnd)...)
			d.Mend()
		}
		s, e := p.life()
		if _, f := result(t, d, "r"); e != api.OK || f != api.OK { // bits that were turned for good
			p.anew()
			s, e = p.life()
		}
		if e != api.OK {
			t.Fatalf("P12.13: %s: %d", p.what, e)
		}
		p.right(s, true)
		tidy(t, d, p.what)
	}
	if ends < 800 || lives-ends < 800 || left < 200 {
		t.Errorf("too little was tried: %d of %d lives ended well, %d behind a file", ends, lives, left)
	}
}

// spent tells a copy of a disk whose faults are behind it.
func spent(d *platter.Disk) *platter.Disk {
	d = d.Copy()
	for range 400 {
		d.Size("g.graph")
	}
	return d
}

func keeps(rnd *rand.Rand) []int64 {
	var l []int64
	for range rnd.IntN(12) {
		l = append(l, rnd.Int64N(200)-20)
	}
	return l
}

// P12.17: the power goes at each operation in turn, and again at each operation of the life behind it: the run stands where a manifest says, and comes to the one truth.
func TestPowerAtEachOperation(t *testing.T) {
	w := some()
	w.edges, w.prog.both = w.edges[:20], true
	want, stats, _ := sketched(w.g.N, true, w.edges, w.prog, 9)
	o := w.o
	o.Every = 1
	one := func(v api.Volume) (api.Stats, api.Errno) {
		g, e := wheel.Find(v, "g")
		if e == api.ErrGraph {
			g, e = wheel.Plant(v, bag(t, 1<<16), w.g, 16, 2, wheel.Feed(w.edges))
		}
		if e != api.OK {
			return api.Stats{}, e
		}
		s, e := wheel.Resume(v, bag(t, 1<<16), g, w.prog, 1, o)
		if e == api.ErrRun {
			s, e = wheel.Run(v, bag(t, 1<<16), g, w.prog, 1, o)
		}
		return s, e
	}
	rnd := rand.New(rand.NewPCG(17, 17))
	stands := map[int]int{}
	for step := int64(2); ; step++ {
		at := step / 2 // each twice: with as few and with as many changes of the directory as can be
		d := disk(t, api.Fault{Op: at, Kind: api.FaultOff})
		if _, e := one(d); e == api.OK {
			break
		} else if e != api.ErrOff {
			t.Fatalf("P12.17: %d at %d", e, at)
		}
		d.Restart(int(step%2)<<20, keeps(rnd)...)
		d.Plan(api.Fault{Op: d.Ops() + 1 + rnd.Int64N(150), Kind: api.FaultOff})
		for lives := 0; ; lives++ {
			if m, e := wheel.Info(d, "r"); e == api.OK {
				stands[m.Round]++
			}
			s, e := one(d)
			if e == api.OK && s == stats {
				break
			}
			if e != api.ErrOff || lives > 1 {
				t.Fatalf("P12.17: behind power off at %d: %d, %v", at, e, s)
			}
			d.Restart(rnd.IntN(8)-1, keeps(rnd)...)
		}
		if got, e := result(t, d, "r"); e != api.OK || !slices.Equal(got, want) {
			t.Fatalf("P12.17: behind power off at %d: %v", at, got)
		}
		tidy(t, d, "power")
	}
	for round := range 4 {
		if stands[round] == 0 {
			t.Errorf("P12.17: no run was found behind round %d: %v", round, stands)
		}
	}
}

// P12.17: the power goes in a Plant: the graph is there, whole, or not.
func TestPowerInPlant(t *testing.T) {
	w := some()
	there := 0
	for at := int64(1); ; at++ {
		d := disk(t, api.Fault{Op: at, Kind: api.FaultOff})
		g, e := wheel.Plant(d, bag(t, 1<<16), w.g, 16, 2, wheel.Feed(w.edges))
		if e == api.OK {
			break
		}
		d.Restart(int(at%9), 30, 60, 90)
		f, e := wheel.Find(d, "g")
		switch e {
		case api.OK:
			there++
			s, _ := wheel.Edges(d, bag(t, 1<<16), "g", 16)
			if l, e := drawn(t, s.All()); e != api.OK || !slices.Equal(l, byParts(f, w.edges)) {
				t.Fatalf("P12.17: power off at %d: the graph is not whole: %d", at, e)
			}
		case api.ErrGraph:
			if g, e = wheel.Plant(d, bag(t, 1<<16), w.g, 16, 2, wheel.Feed(w.edges)); e != api.OK || len(list(t, d)) != 7 {
				t.Fatalf("P12.17: power off at %d: %d, %v", at, e, list(t, d))
			}
		default:
			t.Fatalf("P12.17: power off at %d: %d, %v", at, e, g)
		}
	}
	if there == 0 {
		t.Error("P12.17: never was the graph there")
	}
}

// P12.12: a stripe is a volume as a disk is one; a member of it fails within a run.
func TestRunsOnAStripe(t *testing.T) {
	for seed := range uint64(12) {
		rnd := rand.New(rand.NewPCG(seed, 5))
		w := anyWorld(rnd, 12)
		disks := []*platter.Disk{disk(t), disk(t), disk(t)}
		v, e := stripe.Format(64, disks[0], disks[1], disks[2])
		if e != api.OK {
			t.Fatal(e)
		}
		p := &play{t: t, rnd: rnd, w: w, v: v, bag: bag(t, 1<<16), what: fmt.Sprintf("stripe %d", seed)}
		broken := disks[rnd.IntN(3)]
		broken.Plan(api.Fault{Op: broken.Ops() + 1 + rnd.Int64N(800), Kind: api.FaultDown})
		s, e := p.life()
		if e != api.OK {
			t.Fatalf("P12.12: %s: %d", p.what, e)
		}
		p.right(s, true)
	}
}

// P12.17: the power of all of a stripe's members goes, at about one time; the stripe is opened again, and the run gone on with.
func TestPowerOnAStripe(t *testing.T) {
	ends, lives := 0, 0
	for seed := range uint64(150) {
		rnd := rand.New(rand.NewPCG(seed, 55))
		w := anyWorld(rnd, 10)
		disks := []*platter.Disk{disk(t), disk(t), disk(t)}
		v, e := stripe.Format(64, disks[0], disks[1], disks[2])
		if e != api.OK {
			t.Fatal(e)
		}
		p := &play{t: t, rnd: rnd, w: w, v: v, bag: bag(t, 1<<16), what: fmt.Sprintf("stripe %d", seed)}
		for range 4 {
			at := 1 + rnd.Int64N(300)
			for _, d := range disks {
				d.Plan(api.Fault{Op: d.Ops() + at + rnd.Int64N(3), Kind: api.FaultOff})
			}
			s, e := p.life()
			if lives++; e == api.OK {
				ends++
				p.right(s, false)
			}
			for i, d := range disks {
				disks[i] = spent(d)
				disks[i].Restart(rnd.IntN(12)-1, keeps(rnd)...)
			}
			if v, e = stripe.Open(disks[0], disks[1], disks[2]); e != api.OK {
				t.Fatalf("%s: %d", p.what, e)
			}
			p.v = v
		}
		s, e := p.life()
		if e != api.OK {
			t.Fatalf("P12.17: %s: %d", p.what, e)
		}
		p.right(s, true)
	}
	if ends < 50 || lives-ends < 200 {
		t.Errorf("too little was tried: %d of %d lives ended well", ends, lives)
	}
}
