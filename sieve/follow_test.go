package sieve_test

import (
	"maps"
	"math/rand"
	"slices"
	"testing"

	"sluice/api"
	"sluice/sieve"
	"sluice/stripe"
)

// holdIngest asks for P9.13 of files that lie on v.
func holdIngest(t *testing.T, v api.Volume, g given, h api.Haul) {
	t.Helper()
	var byPart, byBack [6][]api.Edge
	for _, e := range g.edges {
		p, q := partOf(g.n, g.k, e.Src), partOf(g.n, g.k, e.Dst)
		byPart[p], byBack[q] = append(byPart[p], e), append(byBack[q], e)
	}
	for p := range g.k {
		if h.Parts[p] != int64(len(byPart[p])) || g.both && h.Back[p] != int64(len(byBack[p])) {
			t.Fatalf("part %d: %+v", p, h)
		}
		holdFile(t, v, g.name, p, api.FamEdges, g.kind, byPart[p], h.Sums[p])
		if g.both {
			holdFile(t, v, g.name, p, api.FamBack, g.kind, byBack[p], h.BackSums[p])
		}
	}
}

// P9.13: each edge once, and the same Haul whatever the fan, the buffers and the volume are
func TestEachEdgeOnce(t *testing.T) {
	r := rand.New(rand.NewSource(6))
	for i := range 800 {
		g := randomGiven(r)
		clear(g.wrong)
		g.edges = slices.DeleteFunc(g.edges, func(e api.Edge) bool {
			return e.Src >= g.n || e.Dst >= g.n || g.kind == api.EPlain && e.W != 0 || g.kind == api.EReal && e.W>>23&255 == 255
		})
		g.edges = append(g.edges, g.edges[:len(g.edges)/2]...) // some of them twice
		d := disk(t)
		first, err := ingest(t, d, g)
		if err != api.OK {
			t.Fatalf("%d: %v", i, err)
		}
		holdIngest(t, d, g, first)
		for range 4 {
			g.fan, g.room, g.bytes = r.Intn(255)+2, r.Intn(60)+2, 36+r.Intn(200)
			v := volumeOf(t, r)
			if h, err := ingest(t, v, g); err != api.OK || !sameHaul(h, first) {
				t.Fatalf("%d: fan %d, room %d, bytes %d: %+v %v, want %+v", i, g.fan, g.room, g.bytes, h, err, first)
			}
			holdIngest(t, v, g, first)
		}
	}
}

// volumeOf makes a disk that reads short here and there, or a stripe of three.
func volumeOf(t *testing.T, r *rand.Rand) api.Volume {
	t.Helper()
	if r.Intn(3) > 0 {
		var plan []api.Fault
		for range 20 {
			plan = append(plan, api.Fault{Op: r.Int63n(200) + 1, Kind: api.FaultShort, N: r.Int63n(20) + 1})
		}
		return disk(t, plan...)
	}
	v, err := stripe.Format(16, disk(t), disk(t), disk(t))
	if err != api.OK {
		t.Fatalf("Format: %v", err)
	}
	return v
}

// P9.13: the name alone is told apart by the titles, so a file of another graph is not taken for this one's
func TestHaulOfAnotherName(t *testing.T) {
	g := example(true)
	one, _ := ingest(t, disk(t), g)
	g.name = "h"
	other, err := ingest(t, disk(t), g)
	if err != api.OK || !sameHaul(one, other) {
		t.Errorf("%+v, %+v: %v", one, other, err)
	}
	if tag("g", 0) == tag("h", 0) {
		t.Error("one tag")
	}
}

// P9.13, P0.1: the Haul's lists are new, and none shares memory with another
func TestHaulIsNew(t *testing.T) {
	d := disk(t)
	g := example(true)
	h, _ := ingest(t, d, g)
	want, _ := ingest(t, disk(t), g)
	h.Parts[0], h.Back[0], h.Sums[0], h.BackSums[0] = -10, -11, 1, 2
	parts, back, sums, backSums := append(h.Parts, -1), append(h.Back, -2), append(h.Sums, 3), append(h.BackSums, 4)
	if !slices.Equal(parts, []int64{-10, want.Parts[1], -1}) || !slices.Equal(back, []int64{-11, want.Back[1], -2}) {
		t.Errorf("%v, %v", parts, back)
	}
	if !slices.Equal(sums, []uint32{1, want.Sums[1], 3}) || !slices.Equal(backSums, []uint32{2, want.BackSums[1], 4}) {
		t.Errorf("%v, %v", sums, backSums)
	}
	g.name = "again"
	if again, err := ingest(t, d, g); err != api.OK || !sameHaul(again, want) {
		t.Errorf("%+v %v", again, err)
	}
}

// P9.14: behind an error nothing is left, and what was there is as it was
func TestNothingIsLeft(t *testing.T) {
	r := rand.New(rand.NewSource(7))
	errors := 0
	for i := range 6000 {
		g := randomGiven(r)
		d := disk(t)
		for range r.Intn(4) {
			name := []string{"other", "g.graph", sieve.EdgeFile(g.name, g.k, false), sieve.EdgeFile(g.name, r.Intn(g.k), r.Intn(2) == 0), sieve.EdgeFile("gg", 0, true)}[r.Intn(5)]
			d.Create(name)
			d.Append(name, []byte(name))
		}
		ahead := contents(t, d)
		d.Plan(randomFault(r, d.Ops()))
		_, err := ingest(t, d, g)
		if err == api.OK {
			continue
		}
		errors++
		if behind := contents(t, d); !maps.Equal(ahead, behind) {
			t.Fatalf("%d: %v: there was %q, there is %q", i, err, ahead, behind)
		}
	}
	if errors < 1000 {
		t.Errorf("only %d errors", errors)
	}
}

// randomFault strikes in one of the operations behind those that were, but in no Remove.
func randomFault(r *rand.Rand, ops int64) api.Fault {
	kind := []int{api.FaultWrite, api.FaultTorn, api.FaultSync}[r.Intn(3)]
	return api.Fault{Op: ops + r.Int63n(50) + 1, Kind: kind, N: r.Int63n(60)}
}

// P9.14: a volume that has no room, or too many files
func TestNoRoom(t *testing.T) {
	for _, both := range []bool{false, true} {
		g := example(both)
		for names := api.MaxVolFiles - 5; names <= api.MaxVolFiles; names++ {
			d := disk(t)
			for i := range names {
				d.Create(sieve.EdgeFile("full", i, false))
			}
			files := 2
			if both {
				files = 4
			}
			_, err := ingest(t, d, g)
			want, there := api.OK, names+files
			if there > api.MaxVolFiles {
				want, there = api.ErrQuota, names
			}
			if _, n := d.Used(); err != want || n != there {
				t.Errorf("both %v, %d names: %v, %d files", both, names, err, n)
			}
		}
	}
}

// P9.11: the directory is not synced, so a crash behind it leaves none of its names
func TestDirectoryIsNotSynced(t *testing.T) {
	d := disk(t)
	if _, err := ingest(t, d, example(true)); err != api.OK {
		t.Fatalf("Ingest: %v", err)
	}
	for _, s := range d.Stats() {
		if s.Synced != s.Size || s.Size == 0 {
			t.Errorf("%s: %d of %d bytes are synced", s.Name, s.Synced, s.Size)
		}
	}
	d.Restart(0)
	if left := contents(t, d); len(left) != 0 {
		t.Errorf("left %v", left)
	}
}
