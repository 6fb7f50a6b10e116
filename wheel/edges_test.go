package wheel_test

import (
	"iter"
	"math/rand/v2"
	"slices"
	"testing"

	"sluice/api"
	"sluice/platter"
	"sluice/purse"
	"sluice/sieve"
	"sluice/wheel"
)

// byParts tells edges part by part, those of a part in their order.
func byParts(g api.Graph, edges []api.Edge) []api.Edge {
	cut, _ := sieve.Split(g.N, g.Parts)
	l := slices.Clone(edges)
	slices.SortStableFunc(l, func(a, b api.Edge) int { return cut.BySrc(a) - cut.BySrc(b) })
	return l
}

// drawn tells what a stream tells, and the error that comes as the last.
func drawn(t *testing.T, seq iter.Seq2[api.Edge, api.Errno]) ([]api.Edge, api.Errno) {
	t.Helper()
	var l []api.Edge
	last := api.OK
	for x, e := range seq {
		if last != api.OK {
			t.Fatal("P12.18: told behind an error")
		}
		if last = e; e == api.OK {
			l = append(l, x)
		} else if x != (api.Edge{}) {
			t.Fatal("P12.18: an edge beside an error")
		}
	}
	return l, last
}

// P12.18: each edge with OK, part by part; from the beginning each time; left early and begun again; nested, and several at a time.
func TestEdges(t *testing.T) {
	for seed := range uint64(60) {
		rnd := rand.New(rand.NewPCG(seed, 18))
		w := anyWorld(rnd, 30)
		w.batch = []int{16, 65536}[seed%2]
		d, g := planted(t, w)
		want := byParts(g, w.edges)
		p := bag(t, 16*16+4096)
		s, e := wheel.Edges(d, p, "g", 16)
		if e != api.OK {
			t.Fatal(e)
		}
		for range 2 {
			if l, e := drawn(t, s.All()); e != api.OK || !slices.Equal(l, want) {
				t.Fatalf("P12.18: world %d: %d, %v, want %v", seed, e, l, want)
			}
			for range s.All() {
				if rnd.IntN(4) == 0 {
					break
				}
			}
		}
		var outer []api.Edge
		for x, e := range s.All() {
			if e != api.OK {
				t.Fatal(e)
			}
			outer = append(outer, x)
			if len(outer) > 20 {
				continue
			}
			if inner, e := drawn(t, s.All()); e != api.OK || !slices.Equal(inner, want) {
				t.Fatalf("P12.18: world %d: within another ranging: %d", seed, e)
			}
		}
		if !slices.Equal(outer, want) {
			t.Fatalf("P12.18: world %d: around another ranging", seed)
		}
		one, endOne := iter.Pull2(s.All())
		two, endTwo := iter.Pull2(s.All())
		for _, next := range []func() (api.Edge, api.Errno, bool){one, two, two, one} {
			next()
		}
		for i := range want {
			if i < 2 {
				continue
			}
			a, _, ok := one()
			b, _, _ := two()
			if a != want[i] || b != want[i] || !ok {
				t.Fatalf("P12.18: world %d: two at a time: %v %v, want %v", seed, a, b, want[i])
			}
		}
		endOne()
		endTwo()
		if p.Used() == 0 || s.Close() != api.OK || p.Used() != 0 || s.Close() != api.ErrState {
			t.Fatal("P12.18: Close")
		}
		for range s.All() {
			t.Fatal("P12.18: told behind Close")
		}
	}
}

// P12.18: more edges than a chunk holds.
func TestEdgesOfGreatFiles(t *testing.T) {
	rnd := rand.New(rand.NewPCG(1, 18))
	w := some()
	w.batch = 65536
	for range 20000 {
		w.edges = append(w.edges, api.Edge{Src: rnd.Uint32N(10), Dst: rnd.Uint32N(10), W: rnd.Uint32()})
	}
	d, g := planted(t, w)
	s, _ := wheel.Edges(d, bag(t, 16*16+4096), "g", 16)
	if l, e := drawn(t, s.All()); e != api.OK || !slices.Equal(l, byParts(g, w.edges)) {
		t.Errorf("P12.18: %d", e)
	}
	o := w.o
	o.Batch = 16
	_, stats, _ := wheel.Memory(10, true, w.edges, w.prog, 9, 3)
	_, enough := wheel.Need(g, o, 4)
	if got, e := wheel.Run(d, bag(t, enough), g, w.prog, 1, o); e != api.OK || got != stats {
		t.Errorf("P12.4: planted with the greatest batch, run with the least: %d", e)
	}
}

// P12.18: what is refused, and which goes first.
func TestEdgesRefuses(t *testing.T) {
	d, _ := planted(t, some())
	p := bag(t, 1<<16)
	bad, other := d.Copy(), d.Copy()
	bad.Flip("g.graph", 50)
	lie(t, other, func(m *api.GraphMark) { m.Graph.Name = "h" })
	for i, c := range []struct {
		v     api.Volume
		p     *purse.Purse
		name  string
		batch int
		e     api.Errno
	}{
		{nil, p, "", 0, api.ErrNil}, {d, nil, "", 0, api.ErrNil}, {(*platter.Disk)(nil), p, "g", 16, api.ErrNil}, {d, p, "", 16, api.ErrArg}, {d, p, "g-", 16, api.ErrArg}, {d, p, "g", 15, api.ErrArg}, {bad, bag(t, 0), "g", 65537, api.ErrArg},
		{d, bag(t, 0), "q", 16, api.ErrGraph}, {bad, bag(t, 0), "g", 16, api.ErrSeal}, {other, bag(t, 0), "g", 16, api.ErrOther}, {refusing(d, "ReadAt g.graph", api.ErrIO), bag(t, 0), "g", 16, api.ErrIO}, {d, bag(t, 0), "g", 16, api.ErrSpent},
	} {
		if s, e := wheel.Edges(c.v, c.p, c.name, c.batch); e != c.e || s != nil || c.p.Used() != 0 {
			t.Errorf("P12.18: case %d: %d, want %d", i, e, c.e)
		}
	}
	var none *wheel.Stream
	if none.Close() != api.ErrNil || new(wheel.Stream).Close() != api.ErrNil {
		t.Error("P12.18: a nil Stream")
	}
	for range none.All() {
		t.Error("P12.18: a nil Stream tells")
	}
	for range new(wheel.Stream).All() {
		t.Error("P12.18: a zero Stream tells")
	}
}

// P12.18: the first error of a file comes with a zero edge, as the last; closed within a loop it tells no more.
func TestEdgesOfBrokenFiles(t *testing.T) {
	w := some()
	base, g := planted(t, w)
	want := byParts(g, w.edges)
	for _, c := range []struct {
		spoil func(d *platter.Disk)
		e     api.Errno
	}{
		{func(d *platter.Disk) { d.Remove("g-e-0001") }, api.ErrNoFile}, {func(d *platter.Disk) { d.Flip("g-e-0002", 36*8+24*8) }, api.ErrBody}, {func(d *platter.Disk) { d.Rename("g-e-0002", "g-e-0001") }, api.ErrTitle},
		{func(d *platter.Disk) { lie(t, d, func(m *api.GraphMark) { m.Files[0].Records++ }) }, api.ErrTotal}, {func(d *platter.Disk) { lie(t, d, func(m *api.GraphMark) { m.Files[2].Sum++ }) }, api.ErrTotal}, {func(d *platter.Disk) { strange(t, d, g, []api.Edge{{Src: 9}}) }, api.ErrVertex}, {func(d *platter.Disk) { lie(t, d, func(m *api.GraphMark) { m.Files = m.Files[1:] }) }, api.ErrField},
	} {
		d := base.Copy()
		c.spoil(d)
		s, e := wheel.Edges(d, bag(t, 1<<16), "g", 16)
		if e != api.OK {
			t.Fatal(e)
		}
		for range 2 {
			l, e := drawn(t, s.All())
			if e != c.e || len(l) > len(want) || !slices.Equal(l, want[:len(l)]) {
				t.Errorf("P12.18: %d, want %d; %v", e, c.e, l)
			}
		}
	}
	s, _ := wheel.Edges(base, bag(t, 1<<16), "g", 16)
	n := 0
	for range s.All() {
		if n++; n == 3 {
			s.Close()
		}
	}
	if n != 3 {
		t.Errorf("P12.18: %d told, closed behind 3", n)
	}
}
