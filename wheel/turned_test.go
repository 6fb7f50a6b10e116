package wheel_test

import (
	"fmt"
	"math/rand/v2"
	"slices"
	"strings"
	"testing"

	"sluice/api"
	"sluice/platter"
	"sluice/wheel"
)

// piece is a chunk's head, a chunk's body or a manifest: bytes of a file.
type piece struct {
	name   string
	lo, hi int64
}

// pieces tells all of a disk's: the heads say how long the bodies are.
func pieces(t *testing.T, d *platter.Disk) []piece {
	t.Helper()
	var l []piece
	for name, text := range image(t, d) {
		if strings.Contains(name, ".") {
			l = append(l, piece{name, 0, int64(len(text))})
			continue
		}
		for at := int64(0); at < int64(len(text)); {
			b := text[at:]
			size := int64(b[12]) | int64(b[13])<<8 | int64(b[14])<<16
			l = append(l, piece{name, at, at + 24}, piece{name, at + 24, at + 24 + size})
			at += 24 + size
		}
	}
	slices.SortFunc(l, func(a, b piece) int { return strings.Compare(fmt.Sprint(a), fmt.Sprint(b)) })
	return l
}

// turn turns some bits within 32 beside one another of a piece.
func turn(t *testing.T, rnd *rand.Rand, d *platter.Disk, p piece) {
	t.Helper()
	bits := 8 * (p.hi - p.lo)
	width := min(32, bits)
	from := 8*p.lo + rnd.Int64N(bits-width+1)
	for mask := rnd.Uint32() | 1<<rnd.IntN(int(width)); mask != 0; mask &= mask - 1 {
		bit := int64(0)
		for mask>>bit&1 == 0 {
			bit++
		}
		if bit < width {
			flip(t, d, p.name, from+bit)
		}
	}
}

// P12.16: bits turned within 32 beside one another, of one piece of a graph's files or of each: Find and Run end with an error, or as if none were turned.
func TestTurnedGraphs(t *testing.T) {
	rnd := rand.New(rand.NewPCG(16, 1))
	w := some()
	w.prog.both = true
	want, stats, _ := sketched(w.g.N, true, w.edges, w.prog, 9)
	base, g := planted(t, w)
	all := pieces(t, base)
	try := func(d *platter.Disk, what string) {
		t.Helper()
		f, e := wheel.Find(d, "g")
		if e == api.OK && f != g {
			t.Fatalf("P12.16: %s: Find tells %v", what, f)
		}
		s, e := wheel.Run(d, bag(t, 1<<16), g, w.prog, 1, w.o)
		if e != api.OK {
			tidy(t, d, what)
			return
		}
		if got, e := result(t, d, "r"); s != stats || e != api.OK || !slices.Equal(got, want) {
			t.Fatalf("P12.16: %s: a wrong answer", what)
		}
		t.Fatalf("P12.16: %s: nothing was told", what)
	}
	for _, p := range all {
		for range 8 {
			d := base.Copy()
			turn(t, rnd, d, p)
			try(d, fmt.Sprint(p))
		}
	}
	for range 50 {
		d := base.Copy()
		for _, p := range all {
			turn(t, rnd, d, p)
		}
		try(d, "all")
	}
}

// P12.16: the same of a run's files: Info, Resume and States.
func TestTurnedRuns(t *testing.T) {
	rnd := rand.New(rand.NewPCG(16, 2))
	w := some()
	w.prog.rounds = 4
	want, stats, _ := sketched(w.g.N, true, w.edges, w.prog, 9)
	halt, g := halted(t, w, 2)
	done := halt.Copy()
	if _, e := wheel.Resume(done, bag(t, 1<<16), g, w.prog, 1, w.o); e != api.OK {
		t.Fatal(e)
	}
	for _, base := range []*platter.Disk{halt, done} {
		mark, _ := wheel.Info(base, "r")
		for _, p := range pieces(t, base) {
			if p.name[0] != 'r' {
				continue
			}
			for range 10 {
				d := base.Copy()
				turn(t, rnd, d, p)
				m, e := wheel.Info(d, "r")
				if e == api.OK && (m.Agg != mark.Agg || m.Ctl != mark.Ctl || m.Stats != mark.Stats || !slices.Equal(m.Files, mark.Files)) {
					t.Fatalf("P12.16: %v: Info tells %v", p, m)
				}
				if e == api.OK == (p.name == "r.run") {
					t.Fatalf("P12.16: %v: Info: %d", p, e)
				}
				if got, e := result(t, d, "r"); e == api.OK || len(got) > len(want) {
					t.Fatalf("P12.16: %v: States: %d", p, e)
				}
				s, e := wheel.Resume(d, bag(t, 1<<16), g, w.prog, 1, w.o)
				if e == api.OK && s != stats || e == api.OK && base == halt {
					t.Fatalf("P12.16: %v: Resume: %d, %v", p, e, s)
				}
			}
		}
	}
}

// P12.16, 0.5: whole files of another graph, another part or another run in the place of one: an error, or as if nothing were.
func TestFilesInThePlaceOfOthers(t *testing.T) {
	w := some()
	w.prog.both = true
	want, stats, _ := sketched(w.g.N, true, w.edges, w.prog, 9)
	base, g := planted(t, w)
	base2 := base.Copy()
	if _, e := wheel.Run(base, bag(t, 1<<16), g, w.prog, 1, w.o); e != api.OK {
		t.Fatal(e)
	}
	// The same names with other edges, and another program.
	o := w
	o.edges = slices.Clone(w.edges)
	for i := range o.edges {
		o.edges[i].W++
	}
	twin, h := planted(t, o)
	o.prog.seed++
	if _, e := wheel.Run(twin, bag(t, 1<<16), h, o.prog, 1, w.o); e != api.OK {
		t.Fatal(e)
	}
	// Other names.
	o.g.Name = "h"
	q := w.o
	q.Run = "q"
	far, k := planted(t, o)
	if _, e := wheel.Run(far, bag(t, 1<<16), k, o.prog, 1, q); e != api.OK {
		t.Fatal(e)
	}
	own, others := image(t, base), []map[string]string{image(t, base), image(t, twin), image(t, far)}
	told := 0
	for name, text := range own {
		for _, other := range others {
			for from, with := range other {
				d := base.Copy()
				if name[0] == 'g' {
					d = base2.Copy()
				}
				put(t, d, name, with)
				if name[0] == 'g' {
					f, e := wheel.Find(d, "g")
					if name == "g.graph" && e == api.OK && f != g && with != others[1]["g.graph"] {
						t.Fatalf("P12.2: %s in the place of %s: %v", from, name, f)
					}
					s, e := wheel.Run(d, bag(t, 1<<16), g, w.prog, 1, w.o)
					if e == api.OK && (s != stats || with != text) || e != api.OK && with == text {
						t.Fatalf("P12.16: %s in the place of %s: %d, %v", from, name, e, s)
					}
					told++
					continue
				}
				got, e := result(t, d, "r")
				if e == api.OK && with != text && !(name == "r.run" && with == others[1]["r.run"]) || e == api.OK && !slices.Equal(got, want) || e != api.OK && with == text {
					t.Fatalf("P12.16: %s in the place of %s: %d", from, name, e)
				}
				told++
			}
		}
	}
	if told < 300 {
		t.Errorf("only %d were tried", told)
	}
}
