package wheel_test

import (
	"iter"
	"math/rand/v2"
	"slices"
	"testing"

	"sluice/api"
	"sluice/platter"
	"sluice/purse"
	"sluice/wheel"
)

// ended tells a disk with a run that is done, and its states.
func ended(t *testing.T, w world) (*platter.Disk, api.Graph, []api.State) {
	t.Helper()
	d, g := planted(t, w)
	if _, e := wheel.Run(d, bag(t, 1<<20), g, w.prog, 1, w.o); e != api.OK {
		t.Fatal(e)
	}
	want, _, _ := sketched(w.g.N, w.g.Both, w.edges, w.prog, 99)
	return d, g, want
}

// P12.10: a readout can be left anywhere and gone on with; each vertex is told once, rising; Code is ErrState till the last was told.
func TestReadoutIsLeftAndGoneOnWith(t *testing.T) {
	for seed := range uint64(100) {
		rnd := rand.New(rand.NewPCG(seed, 10))
		w := anyWorld(rnd, 40)
		d, _, want := ended(t, w)
		p := bag(t, 16*20+4096)
		r, e := wheel.States(d, p, "r", 20)
		if e != api.OK {
			t.Fatal(e)
		}
		var got []api.State
		for len(got) < len(want) {
			stop := rnd.IntN(12)
			for v, s := range r.All() {
				if int(v) != len(got) {
					t.Fatalf("P12.10: vertex %d behind %d", v, len(got)-1)
				}
				got = append(got, s)
				last := len(got) == len(want)
				if c := r.Code(); c == api.OK != last || c != api.OK && c != api.ErrState {
					t.Fatalf("P12.10: world %d: Code %d behind %d of %d", seed, c, len(got), len(want))
				}
				if stop--; stop < 0 {
					break
				}
			}
		}
		if !slices.Equal(got, want) {
			t.Fatalf("P12.10: world %d", seed)
		}
		for range r.All() {
			t.Fatal("P12.10: told again")
		}
		if r.Code() != api.OK || r.Close() != api.OK || p.Used() != 0 || r.Code() != api.OK || r.Close() != api.ErrState {
			t.Fatal("P12.10: the end")
		}
	}
}

// P12.10: rangings within rangings share what is told; behind Close nothing is told, and Code is what it was.
func TestReadoutNestedAndClosed(t *testing.T) {
	d, _, want := ended(t, some())
	p := bag(t, 1<<16)
	r, _ := wheel.States(d, p, "r", 16)
	var got []api.State
	for _, s := range r.All() {
		got = append(got, s)
		for _, s := range r.All() {
			got = append(got, s)
			break
		}
	}
	if !slices.Equal(got, want) {
		t.Error("P12.10: nested")
	}
	r.Close()
	for _, at := range []int{0, 1, 5} {
		r, _ = wheel.States(d, p, "r", 16)
		n := 0
		for range r.All() {
			n++
			if n == at {
				r.Close()
			}
		}
		if at == 0 {
			continue
		}
		for range r.All() {
			n++
		}
		if n != at || r.Code() != api.ErrState || r.Close() != api.ErrState {
			t.Errorf("P12.10: closed behind %d: %d told", at, n)
		}
	}
	next, stop := iter.Pull2(r.All())
	if _, _, ok := next(); ok {
		t.Error("P12.10: told behind Close")
	}
	stop()
}

// P12.10: what is refused, and which goes first.
func TestStatesRefuses(t *testing.T) {
	w := some()
	w.prog.rounds = 6
	d, g := halted(t, w, 2)
	p := bag(t, 1<<16)
	done := d.Copy()
	wheel.Resume(done, p, g, w.prog, 1, w.o)
	bad := done.Copy()
	bad.Flip("r.run", 50)
	other := done.Copy()
	lieRun(t, other, func(m *api.RunMark) { m.Run = "q" })
	var none *wheel.Readout
	for i, c := range []struct {
		v     api.Volume
		p     *purse.Purse
		run   string
		batch int
		e     api.Errno
	}{
		{nil, p, "", 0, api.ErrNil}, {done, nil, "", 0, api.ErrNil}, {(*platter.Disk)(nil), p, "r", 16, api.ErrNil}, {done, p, "", 16, api.ErrArg}, {done, p, "R", 16, api.ErrArg}, {done, p, "r", 15, api.ErrArg}, {bad, bag(t, 0), "r", 65537, api.ErrArg},
		{done, bag(t, 0), "q", 16, api.ErrRun}, {bad, bag(t, 0), "r", 16, api.ErrSeal}, {other, bag(t, 0), "r", 16, api.ErrOther}, {refusing(done, "Size r.run", api.ErrIO), bag(t, 0), "r", 16, api.ErrIO}, {d, bag(t, 0), "r", 16, api.ErrRun}, {done, bag(t, 0), "r", 16, api.ErrSpent}, {done, bag(t, 15), "r", 16, api.ErrSpent},
	} {
		if r, e := wheel.States(c.v, c.p, c.run, c.batch); e != c.e || r != nil || c.p.Used() != 0 {
			t.Errorf("P12.10: case %d: %d, want %d", i, e, c.e)
		}
	}
	for _, batch := range []int{16, 65536} {
		if r, e := wheel.States(done, bag(t, 16*batch+4096), "r", batch); e != api.OK || r.Close() != api.OK {
			t.Errorf("P12.10: %d", e)
		}
	}
	if none.Code() != api.ErrNil || none.Close() != api.ErrNil {
		t.Error("P12.10: a nil Readout")
	}
	if zero := new(wheel.Readout); zero.Code() != api.ErrNil || zero.Close() != api.ErrNil {
		t.Error("P12.10: a Readout that States did not make")
	}
	for range none.All() {
		t.Error("P12.10: a nil Readout tells")
	}
	for range new(wheel.Readout).All() {
		t.Error("P12.10: a zero Readout tells")
	}
}

// P12.10, P12.16: an error of a file ends the telling; what was told ahead of it is right.
func TestReadoutOfBrokenFiles(t *testing.T) {
	w := some()
	base, _, want := ended(t, w)
	for _, c := range []struct {
		spoil func(d *platter.Disk)
		most  int // so many may be told
		e     api.Errno
	}{
		{func(d *platter.Disk) { d.Remove("r-s-0000003-0001") }, 4, api.ErrNoFile},
		{func(d *platter.Disk) { d.Flip("r-s-0000003-0001", 36*8+24*8+5) }, 4, api.ErrBody},
		{func(d *platter.Disk) { d.Append("r-s-0000003-0002", []byte{0}) }, 10, api.ErrBehind},
		{func(d *platter.Disk) { d.Remove("r-s-0000003-0002"); d.Rename("r-s-0000003-0001", "r-s-0000003-0002") }, 4, api.ErrNoFile},
		{func(d *platter.Disk) { d.Rename("r-s-0000003-0002", "r-s-0000003-0001") }, 4, api.ErrTitle},
	} {
		d := base.Copy()
		c.spoil(d)
		r, e := wheel.States(d, bag(t, 1<<16), "r", 16)
		if e != api.OK {
			t.Fatal(e)
		}
		n := 0
		for v, s := range r.All() {
			if int(v) != n || s != want[n] {
				t.Errorf("P12.10: vertex %d: %v", v, s)
			}
			n++
		}
		if n > c.most || r.Code() != c.e {
			t.Errorf("P12.10: %d told, %d, want %d", n, r.Code(), c.e)
		}
		for range r.All() {
			t.Error("P12.10: told behind an error")
		}
		if r.Close() != api.OK || r.Code() != c.e {
			t.Error("P12.10: Code behind Close")
		}
	}
}
