package stripe_test

import (
	"fmt"
	"slices"
	"strings"
	"testing"

	"sluice/api"
	"sluice/platter"
	"sluice/stripe"
)

// meter reckons what room a member may need (P5.10).
type meter struct {
	w       *world
	calls   int64
	opens   int64
	removed int64 // bytes of the files that have gone since the last SyncDir
}

func (m *meter) bytes() int64 {
	all := m.removed
	for _, f := range m.w.now {
		all += int64(len(f.data))
	}
	return all
}

// call does something to the stripe, and holds what members needed for it against what they may need.
func (m *meter) call(what string, do func()) {
	m.w.t.Helper()
	before := m.bytes()
	for _, r := range m.w.rigs {
		r.bytes, r.files = 0, 0
	}
	do()
	m.calls++
	enough := (4+4*m.opens)*max(before, m.bytes()) + 1024*m.calls + 65536
	for i, r := range m.w.rigs {
		if r.bytes > enough || r.files > api.MaxStripeFiles+64 {
			m.w.fail("%s: member %d has had %d bytes in %d files; it may need %d", what, i, r.bytes, r.files, enough)
		}
	}
}

func (m *meter) gone(name string) {
	if f := m.w.now[name]; f != nil {
		m.removed += int64(len(f.data))
	}
}

// act does something, as world's does.
func (m *meter) act(names []string) {
	m.w.t.Helper()
	w := m.w
	name, other := names[w.rng.IntN(len(names))], names[w.rng.IntN(len(names))]
	switch k := w.rng.IntN(20); {
	case k < 6:
		m.call("Create", func() { w.create(name) })
	case k < 12:
		n := []int{0, 1, 2, w.rng.IntN(100), w.rng.IntN(5000)}[w.rng.IntN(5)]
		m.call("Append", func() { w.append(name, w.some(n)) })
	case k < 14:
		m.call("Sync", func() { w.sync(name) })
	case k < 16:
		m.call("SyncDir", func() { w.syncDir() })
		if w.sure == len(w.moments)-1 {
			m.removed = 0
		}
	case k < 18:
		if w.now[name] != nil && name != other {
			m.gone(other)
		}
		m.call("Rename", func() { w.rename(name, other) })
	default:
		m.gone(name)
		m.call("Remove", func() { w.remove(name) })
	}
}

// open opens, and is broken off some times before that.
func (m *meter) open() {
	m.w.t.Helper()
	w := m.w
	for {
		for _, r := range w.rigs {
			w.restart(r)
			r.hook, r.wait = nil, -1
		}
		if w.rng.IntN(4) > 0 {
			all := &count{at: w.rng.IntN(40 * len(w.rigs))}
			for _, r := range w.rigs {
				r.hook = all
			}
		}
		m.opens++
		var s *stripe.Stripe
		var e api.Errno
		m.call("Open", func() { s, e = stripe.Open(w.volumes()...) })
		if e == api.OK {
			for _, r := range w.rigs {
				r.hook = nil
			}
			if s.Out() != -1 {
				w.fail("Open: out %d", s.Out())
			}
			w.strict = true
			w.reopened(s, w.sure, true)
			return
		}
	}
}

func TestRoom(t *testing.T) {
	for i := range 60 {
		n, unit := sizes(i)
		w := newWorld(t, dice(uint64(i)), n, unit)
		m := &meter{w: w, calls: 1}
		var names []string
		for j := range 1 + i%7*10 {
			names = append(names, fmt.Sprintf("a-name-that-is-as-long-as-names-may-be-%09d", j))
		}
		for range 400 {
			switch w.rng.IntN(60) {
			case 0:
				m.open()
			case 1:
				v := newRig(t, 1<<28)
				at := w.rng.IntN(n)
				m.call("Replace", func() {
					old := w.rigs[at]
					w.rigs[at] = v
					if e := w.s.Replace(at, v); e != api.OK {
						w.fail("Replace: %v", e)
					}
					old.wait = -1
				})
				for _, f := range w.now {
					f.synced = len(f.data)
				}
			default:
				m.act(names)
			}
		}
		if w.s.Out() != -1 {
			w.fail("out %d", w.s.Out())
		}
	}
}

// An Open may be broken off as often as you like: what it leaves is taken away by the next.
func TestRoomOfBrokenOpens(t *testing.T) {
	w := newWorld(t, dice(3), 3, 16)
	for i := range 100 {
		w.create(fmt.Sprint("f", i))
	}
	w.syncDir()
	most := 0
	for i := range 600 {
		all := &count{at: i}
		for _, r := range w.rigs {
			r.Disk.Restart(i%3, 1<<20, 1<<20)
			r.hook, r.wait = all, -1
		}
		_, e := stripe.Open(w.volumes()...)
		if e != api.OK && e != api.ErrTwo && e != api.ErrOff {
			t.Fatal(e)
		}
		for _, r := range w.rigs {
			_, files := r.Used()
			most = max(most, files)
		}
	}
	if most > 4 {
		t.Errorf("%d files", most)
	}
	w.comesAgain(-1, 0)
}

// A disk with just so much room is enough; one with less is bad.
func TestRoomIsEnough(t *testing.T) {
	run := func(quota int64, small int) (*stripe.Stripe, api.Errno) {
		var l []api.Volume
		for m := range 3 {
			q := quota
			if m == small {
				q = 3000
			}
			d, e := platter.New(q)
			if e != api.OK {
				t.Fatal(e)
			}
			l = append(l, d)
		}
		s, e := stripe.Format(16, l...)
		if e != api.OK {
			return nil, e
		}
		var first api.Errno
		for i := range 50 {
			name := fmt.Sprint("f", i)
			for _, e := range []api.Errno{s.Create(name), s.Append(name, make([]byte, 4000)), s.Sync(name), s.SyncDir(), s.Remove(name), s.SyncDir()} {
				if first == api.OK {
					first = e
				}
			}
		}
		return s, first
	}
	// 1 call of Format, and 6 for each file; never more than 4000 bytes at one time
	s, e := run(4*4000+1024*7+65536, -1)
	if e != api.OK || s.Out() != -1 {
		t.Errorf("enough: %v", e)
	}
	s, e = run(1<<20, 1)
	if e != api.OK || s.Out() != 1 {
		t.Errorf("one is too small: %v, out %d", e, s.Out())
	}
	if s, e = run(3000, -1); e != api.ErrQuota {
		t.Errorf("all are too small: %v", e)
	}
}

// What is refused for want of room: the file takes no more, and tells what it has.
func TestNoRoom(t *testing.T) {
	w := newWorld(t, dice(4), 3, 16)
	for i := range w.rigs {
		d, _ := platter.New(9000)
		w.rigs[i] = &rig{Disk: d, wait: -1}
	}
	w.s, _ = stripe.Format(16, w.volumes()...)
	w.strict = false
	w.create("a")
	w.append("a", w.some(3000))
	w.sync("a")
	w.create("b")
	if e := w.s.Append("b", w.some(9000)); e != api.ErrQuota || w.s.Out() != -1 {
		t.Errorf("Append: %v, out %d", e, w.s.Out())
	}
	is(t, "again", w.s.Append("b", nil), api.ErrHalf)
	is(t, "Sync", w.s.Sync("b"), api.ErrHalf)
	size, _ := w.s.Size("b")
	b := make([]byte, 9000)
	if n, e := w.s.ReadAt("b", 0, b); e != api.OK || int64(n) != size {
		t.Errorf("what is half: %d of %d, %v", n, size, e)
	}
	w.readAt("a", 0, 4000)
	is(t, "Remove", w.s.Remove("b"), api.OK)
	is(t, "SyncDir", w.s.SyncDir(), api.OK)
	is(t, "Create", w.s.Create("b"), api.OK)
	is(t, "Append", w.s.Append("b", make([]byte, 2000)), api.OK)
	is(t, "Sync", w.s.Sync("b"), api.OK)
}

// All names that there may be, with bytes in each; and a host of files that go and come without a SyncDir.
func TestAllNames(t *testing.T) {
	w := newWorld(t, dice(6), 3, 16)
	s := w.s
	name := func(i int) string { return fmt.Sprintf("%048d", i) }
	for i := range api.MaxStripeFiles {
		if e := s.Create(name(i)); e != api.OK {
			t.Fatal(i, e)
		}
		if e := s.Append(name(i), []byte{byte(i)}); e != api.OK {
			t.Fatal(i, e)
		}
	}
	is(t, "one more", s.Create("one-more"), api.ErrQuota)
	is(t, "one that is there", s.Create(name(7)), api.ErrTaken)
	is(t, "one that is none", s.Create("A"), api.ErrVolName)
	for i := range 300 {
		is(t, "Remove", s.Remove(name(i)), api.OK)
		is(t, "Create", s.Create(name(i)), api.OK)
		is(t, "Append", s.Append(name(i), []byte{1}), api.OK)
	}
	is(t, "Rename", s.Rename(name(0), name(1)), api.OK)
	is(t, "Create", s.Create("one-more"), api.OK)
	is(t, "SyncDir", s.SyncDir(), api.OK)
	for _, r := range w.rigs {
		if r.files > api.MaxStripeFiles+64 {
			t.Errorf("%d files", r.files)
		}
		r.Disk.Restart(1<<20, slices.Repeat([]int64{99}, 5000)...)
	}
	again, e := stripe.Open(w.volumes()...)
	if e != api.OK || again.Out() != -1 {
		t.Fatalf("Open: %v", e)
	}
	want, _ := s.List()
	if got, _ := again.List(); !slices.Equal(got, want) || len(got) != api.MaxStripeFiles {
		t.Errorf("%d names", len(got))
	}
	for i := range api.MaxStripeFiles {
		b := make([]byte, 2)
		if n, e := again.ReadAt(name(i), 0, b); i > 300 && (n != 1 || e != api.OK || b[0] != byte(i)) {
			t.Fatalf("%d: %d %v", i, n, e)
		}
	}
}

// A log does not grow for ever, and what it tells outlives it.
func TestLongLife(t *testing.T) {
	w := newWorld(t, dice(8), 4, 16)
	long := [...]string{strings.Repeat("a", 48), strings.Repeat("b", 48)}
	w.create(long[0])
	w.append(long[0], w.some(50))
	written := int64(0)
	for i := range 3000 {
		w.rename(long[i%2], long[1-i%2])
		switch {
		case i%10 == 9:
			w.syncDir()
			w.moments, w.sure = w.moments[len(w.moments)-1:], 0
		case i%7 == 0:
			w.append(long[1-i%2], w.some(1))
			w.sync(long[1-i%2])
		}
		written += 100
	}
	for _, r := range w.rigs {
		if r.bytes > written/2 {
			t.Errorf("%d bytes", r.bytes)
		}
	}
	w.rename(long[0], "x")
	w.comesAgain(-1, 2)
	w.life2()
}

// longLived gives a stripe whose log is about to be begun anew, with bytes that are not durable.
func longLived(t *testing.T) *world {
	t.Helper()
	w := newWorld(t, dice(8), 3, 16)
	size := func() int64 { return w.rigs[0].Stats()[0].Size } // there is no other file than its log
	enough := 4*size() + 1<<16
	long := [...]string{strings.Repeat("a", 48), strings.Repeat("b", 48)}
	w.create(long[0])
	for i := 0; size() <= enough; i++ {
		w.rename(long[i%2], long[1-i%2])
		w.syncDir()
	}
	w.moments, w.sure = w.moments[len(w.moments)-1:], 0
	w.create("x")
	w.append("x", w.some(70))
	return w
}

// logs tells the logs of a disk.
func logs(r *rig) (names []string) {
	for _, f := range r.Stats() {
		if strings.HasPrefix(f.Name, "log-") {
			names = append(names, f.Name)
		}
	}
	return names
}

func TestLogBegunAnew(t *testing.T) {
	for k := 0; ; k++ { // the power of one member or another goes on the way
		w := longLived(t)
		r := w.rigs[k%3]
		r.wait, r.fault = k/3, api.Fault{Kind: api.FaultOff}
		w.syncDir()
		for _, r := range w.rigs {
			if l := logs(r); r.Lit() && (len(l) != 1 || l[0] == "log-00000001") {
				w.fail("logs: %v", l)
			}
		}
		if r.wait >= 0 {
			break
		}
		w.create("y")
		w.append("y", w.some(9))
		w.sync("y")
		w.syncDir()
		for _, r := range w.rigs {
			w.keep(r, 0)
		}
		for other := range 3 {
			one := w.twin()
			one.strict = false
			one.rigs[other].wait, one.rigs[other].fault = 0, api.Fault{Kind: api.FaultOff}
			one.open(other, w.rigs[other] == r)
		}
		w.open(-1, true)
	}
}

// Two members fail while a log is begun anew: nothing that would have to stand in it is answered OK any more.
func TestLogNotBegunAnew(t *testing.T) {
	w := longLived(t)
	for _, r := range w.rigs[1:] {
		r.wait, r.fault = 3, api.Fault{Kind: api.FaultSync}
	}
	is(t, "SyncDir", w.s.SyncDir(), api.ErrTwo)
	is(t, "SyncDir", w.s.SyncDir(), api.ErrHalf)
	is(t, "Sync", w.s.Sync("x"), api.ErrTwo)
	w.moments = append(w.moments, w.now)
	w.comesAgain(-1, 1)
}
