package stripe_test

import (
	"bytes"
	"testing"

	"sluice/api"
	"sluice/platter"
	"sluice/stripe"
)

// twin gives the same world once more, over copies of the disks.
func (w *world) twin() *world {
	c := *w
	c.rigs = nil
	for _, r := range w.rigs {
		c.rigs = append(c.rigs, &rig{Disk: r.Disk.Copy(), wait: -1})
	}
	c.trace = w.trace[:len(w.trace):len(w.trace)]
	return &c
}

// uneven gives a world whose members have kept unlike tails of their files, and of their logs.
func uneven(t *testing.T, seed uint64, n int) *world {
	t.Helper()
	w := newWorld(t, dice(seed), n, 16)
	w.life()
	w.append("a", w.some(90))
	w.create("e")
	w.append("e", w.some(50))
	w.append("e", w.some(9))
	w.append("d", w.some(70))
	w.strict = false
	all := &count{at: w.rng.IntN(4 * n)}
	for _, r := range w.rigs {
		r.hook = all
	}
	w.syncDir()
	for _, r := range w.rigs {
		r.hook, r.wait = nil, -1
		w.restart(r)
	}
	w.strict = true
	return w
}

// open opens; with an error it is answered false.
func (w *world) open(bad int, must bool) bool {
	w.t.Helper()
	s, e := stripe.Open(w.volumes()...)
	w.say("Open: %v", e)
	switch {
	case e == api.OK && (s.Out() == -1 || s.Out() == bad || !must):
		for _, r := range w.rigs {
			r.wait, r.blink, r.hook = -1, nil, nil
		}
		w.reopened(s, w.sure, true)
		return true
	case must || e != api.ErrTwo && e != api.ErrOff:
		w.fail("Open: %v, bad %d", e, bad)
	}
	return false
}

// Of one member any fault strikes at any operation of an Open: it is answered OK (P5.2, P5.7).
func TestFaultsInOpen(t *testing.T) {
	for n := 3; n < 5; n++ {
		for seed := range uint64(6) {
			state := uneven(t, seed, n)
			for bad := range n {
				for kind := api.FaultRead; kind <= api.FaultDown; kind++ {
					for k := 0; ; k++ {
						w := state.twin()
						r := w.rigs[bad]
						r.wait, r.fault = k, api.Fault{Kind: kind, N: int64(k) * 5}
						ops := r.Ops()
						s, e := stripe.Open(w.volumes()...)
						if e != api.OK || s.Out() != -1 && s.Out() != bad {
							w.fail("kind %d at %d of %d: %v", kind, k, bad, e)
						}
						if r.wait >= 0 && r.Ops() > ops {
							break
						}
						r.wait = -1
						w.reopened(s, w.sure, true)
					}
				}
			}
		}
	}
}

// The power of a member goes and comes at any operation of an Open, unseen, while another one is behind (P5.7).
func TestBlinksInOpen(t *testing.T) {
	for seed := range uint64(6) {
		n := 3 + int(seed%2)
		state := newWorld(t, dice(seed), n, 16)
		behind := int(seed) % n
		state.rigs[behind].wait, state.rigs[behind].fault = 20, api.Fault{Kind: api.FaultOff}
		state.life()
		state.append("a", state.some(90))
		state.append("d", state.some(50))
		for _, r := range state.rigs {
			state.restart(r)
		}
		for m := range n {
			for k := 0; ; k++ {
				w := state.twin()
				r := w.rigs[m]
				blinked := false
				r.wait, r.blink = k, func() { blinked = true; w.keep(r, k%3) }
				w.open(-1, false)
				if !blinked {
					break
				}
				for i, r := range w.rigs {
					r.wait, r.blink = -1, nil
					w.keep(r, (k+i)%3)
				}
				w.open(-1, true)
				w.strict = true
				w.life2()
			}
		}
	}
}

// The same while the stripe is used, of two members.
func TestBlinksInUse(t *testing.T) {
	for i := range 4000 {
		w := newWorld(t, dice(uint64(i)), 3+i%2, 16)
		w.strict = false
		for range 2 {
			r := w.rigs[w.rng.IntN(len(w.rigs))]
			r.wait, r.blink = w.rng.IntN(100), func() { w.say("blink"); w.keep(r, i%3) }
		}
		w.life()
		w.comesAgain(-1, w.rng.IntN(3))
	}
}

// An Open is broken off, then a member is gone, and much happens without it: what it has heard last does not count (P5.7, P5.11).
func TestOneIsAbsent(t *testing.T) {
	for absent := range 3 {
		state := uneven(t, 1, 3)
		for j := 0; ; j++ {
			w := state.twin()
			all := &count{at: j}
			for _, r := range w.rigs {
				r.hook = all
			}
			done := w.open(-1, false)
			for i, r := range w.rigs {
				r.hook, r.wait = nil, -1
				w.keep(r, (i+j)%3)
			}
			w.rigs[absent].wait, w.rigs[absent].fault = 0, api.Fault{Kind: api.FaultOff}
			w.open(absent, true)
			if w.s.Out() != absent {
				w.fail("out %d", w.s.Out())
			}
			w.create("new")
			w.append("new", w.some(60))
			w.sync("new")
			w.remove("a")
			w.syncDir()
			for _, r := range w.rigs {
				w.keep(r, j%3)
			}
			other := w.twin()
			other.rigs[(absent+1)%3].wait, other.rigs[(absent+1)%3].fault = 0, api.Fault{Kind: api.FaultOff}
			other.open(-1, false)
			w.open(-1, true)
			w.strict = true
			w.life2()
			if done {
				break
			}
		}
	}
}

// A member's power goes at any operation, and the others go on: with that one and without another nothing is told, or all (P5.7).
func TestLeftBehind(t *testing.T) {
	for n := 3; n < 5; n++ {
		for behind := range n {
			for k := 0; ; k++ {
				w := newWorld(t, dice(9), n, 16)
				r := w.rigs[behind]
				r.wait, r.fault = k, api.Fault{Kind: api.FaultOff}
				w.life()
				if r.wait >= 0 {
					break
				}
				for _, r := range w.rigs {
					w.keep(r, k%3)
				}
				for other := range n {
					one := w.twin()
					one.strict = false
					one.rigs[other].wait, one.rigs[other].fault = 0, api.Fault{Kind: api.FaultOff}
					one.open(other, other == behind)
				}
				w.open(-1, true)
				w.life2()
			}
		}
	}
}

// Two Opens in a row are broken off, then one member is gone for good, or tells what it was before (P5.7).
func TestTwoBrokenOpens(t *testing.T) {
	state := uneven(t, 2, 3)
	ops := 0
	for j := 0; ; j += 2 {
		first := state.twin()
		first.breakAt(j)
		if j > 0 && first.s != state.s {
			break
		}
		for k := j % 3; k < max(ops, 60); k += 3 {
			w := first.twin()
			ops = max(ops, w.breakAt(k))
			for bad := range 3 {
				one := w.twin()
				one.rigs[bad] = []*rig{newRig(t, 1<<20), {Disk: state.rigs[bad].Disk.Copy(), wait: -1}}[(j+k)/2%2]
				one.open(bad, true)
			}
		}
	}
}

// breakAt lets the power of all go at an operation of an Open, and come again; how many were made.
func (w *world) breakAt(k int) int {
	w.t.Helper()
	all := &count{at: k}
	for _, r := range w.rigs {
		r.hook = all
	}
	w.open(-1, false)
	for i, r := range w.rigs {
		r.hook, r.wait = nil, -1
		w.keep(r, (i+k)%3)
	}
	return all.made
}

// The first names what is durable; power may have gone unseen while it was made so.
func TestBlinksInFormat(t *testing.T) {
	for k := range 8 {
		for j := range 8 {
			for mode := range 2 {
				w := &world{t: t, rng: dice(1), now: shelf{}, moments: []shelf{{}}}
				for i := range 3 {
					r := newRig(t, 1<<20)
					r.wait, r.blink = [...]int{k, j, -1}[i], func() { w.keep(r, mode) }
					w.rigs = append(w.rigs, r)
				}
				s, e := stripe.Format(16, w.volumes()...)
				for _, r := range w.rigs {
					r.wait, r.blink = -1, nil
					w.keep(r, 0)
				}
				if e == api.OK && s.Out() == -1 {
					w.open(-1, true)
				}
			}
		}
	}
}

// swap is a disk that tells one file's bytes for another's.
type swap struct {
	*platter.Disk
	on bool
}

func (d *swap) ReadAt(name string, at int64, into []byte) (int, api.Errno) {
	if names, _ := d.Disk.List(); d.on && len(names) > 1 {
		switch name {
		case names[0]:
			name = names[1]
		case names[1]:
			name = names[0]
		}
	}
	return d.Disk.ReadAt(name, at, into)
}

// A piece of another file, whole as it is, is wrong.
func TestAnotherFilesPieces(t *testing.T) {
	for m := range 3 {
		l := disks(t, 3)
		members := volumes(l...)
		liar := &swap{Disk: l[m]}
		members[m] = liar
		s, _ := stripe.Format(16, members...)
		for i, name := range []string{"x", "y"} {
			s.Create(name)
			s.Append(name, append(make([]byte, 39), byte(i)))
			s.Append(name, rising(32))
			s.Sync(name)
		}
		s.SyncDir()
		liar.on = true
		tells(t, s, append(make([]byte, 40), rising(32)...))
		s, e := stripe.Open(members...)
		if e != api.OK {
			t.Fatal(e)
		}
		tells(t, s, append(make([]byte, 40), rising(32)...))
	}
}

// shifted is a disk that tells what stands further on in a file.
type shifted struct {
	*platter.Disk
	by int64
}

func (d *shifted) ReadAt(name string, at int64, into []byte) (int, api.Errno) {
	if n, e := d.Disk.ReadAt(name, at+d.by, into); e == api.OK && n == len(into) {
		return n, e
	}
	return d.Disk.ReadAt(name, at, into)
}

// A piece of another row of the file, whole as it is, is wrong too.
func TestAnotherRowsPieces(t *testing.T) {
	want := bytes.Repeat(rising(192), 4)
	for i := range want {
		want[i] += byte(i / 192)
	}
	for m := range 3 {
		for by := range int64(150) {
			l := disks(t, 3)
			members := volumes(l...)
			liar := &shifted{Disk: l[m]}
			members[m] = liar
			s, _ := stripe.Format(16, members...)
			s.Create("x")
			s.Append("x", want)
			s.Sync("x")
			s.SyncDir()
			liar.by = by
			for at := range 30 {
				b := make([]byte, 20)
				if n, e := s.ReadAt("x", int64(20*at), b); e != api.OK || n != 20 || !bytes.Equal(b, want[20*at:][:20]) {
					t.Fatalf("member %d, %d bytes further on: %v", m, by, e)
				}
			}
			if found, _ := s.Scrub(); found.Lost != 0 || by == 0 && found.Weak != 0 {
				t.Errorf("member %d, %d bytes further on: %+v", m, by, found)
			}
		}
	}
}

// bottomless is a disk whose logs have no end.
type bottomless struct{ *platter.Disk }

func (bottomless) Size(string) (int64, api.Errno) { return 1 << 62, api.OK }

func (bottomless) ReadAt(_ string, _ int64, into []byte) (int, api.Errno) { return len(into), api.OK }

func TestLogWithoutEnd(t *testing.T) {
	s, l := formatted(t, 3, 16)
	s.Sync("x")
	s.SyncDir()
	s, e := stripe.Open(l[0], bottomless{l[1]}, l[2])
	if e != api.OK || s.Out() != 1 {
		t.Fatalf("Open: %v", e)
	}
	tells(t, s, rising(40))
}

// Where what was durable is lost on more members than one, it is told, not passed over.
func TestLostIsTold(t *testing.T) {
	s, l := formatted(t, 3, 16)
	s.Sync("x")
	s.SyncDir()
	for i, what := range []string{"data-", "log-"} {
		c := []*platter.Disk{l[0].Copy(), l[1].Copy(), l[2].Copy()}
		for _, d := range c[i:][:2] {
			for _, f := range d.Stats() {
				if f.Name[:len(what)] == what {
					d.Flip(f.Name, 8*f.Size-1)
				}
			}
		}
		if s, e := stripe.Open(volumes(c...)...); s != nil || e != api.ErrTwo {
			t.Errorf("%s: %v", what, e)
		}
		for _, d := range c[i:][:1] { // nothing was lost by the attempt
			for _, f := range d.Stats() {
				if f.Name[:len(what)] == what {
					d.Flip(f.Name, 8*f.Size-1)
				}
			}
		}
		again, e := stripe.Open(volumes(c...)...)
		if e != api.OK {
			t.Fatalf("%s: %v", what, e)
		}
		tells(t, again, rising(40))
	}
}

// One member lacks what was synced without it, and another one that has it is gone: the third can't make up for both.
func TestBehindAndGone(t *testing.T) {
	for gone := range 2 {
		s, l := formatted(t, 3, 16)
		is(t, "Sync", s.Sync("x"), api.OK)
		is(t, "SyncDir", s.SyncDir(), api.OK)
		down(l[2])
		is(t, "Append", s.Append("x", rising(7)), api.OK)
		is(t, "Sync", s.Sync("x"), api.OK)
		l[2].Mend()
		members := volumes(l...)
		members[gone] = disks(t, 1)[0]
		refuses(t, "one behind and an empty one", api.ErrTwo, members...)
		tells(t, opened(t, -1, l...), append(rising(40), rising(7)...))
	}
}

// All members are read from, and all are written alike.
func TestShared(t *testing.T) {
	s, l := formatted(t, 5, 16)
	for range 50 {
		s.Append("x", rising(64))
	}
	for _, d := range l {
		d.Clear()
	}
	s.ReadAt("x", 0, make([]byte, 1<<16))
	for i, d := range l {
		read := int64(0)
		for _, f := range d.Stats() {
			read += f.ReadBytes
		}
		if read == 0 {
			t.Errorf("member %d is not read", i)
		}
		if a, b := d.Stats()[0].Size, l[0].Stats()[0].Size; a != b {
			t.Errorf("member %d has %d bytes, not %d", i, a, b)
		}
	}
}
