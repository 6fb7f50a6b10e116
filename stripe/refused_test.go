package stripe_test

import (
	"testing"

	"sluice/api"
	"sluice/platter"
	"sluice/stripe"
)

// two gives a stripe with two durable files, a and b, of ninety bytes each.
func two(t *testing.T) (*stripe.Stripe, []*platter.Disk) {
	t.Helper()
	l := disks(t, 3)
	s, e := stripe.Format(16, volumes(l...)...)
	if e != api.OK {
		t.Fatal(e)
	}
	for _, name := range []string{"a", "b"} {
		is(t, "Create", s.Create(name), api.OK)
		is(t, "Append", s.Append(name, rising(90)), api.OK)
		is(t, "Sync", s.Sync(name), api.OK)
	}
	is(t, "SyncDir", s.SyncDir(), api.OK)
	return s, l
}

// stands asks what is always answered of what two gives.
func stands(t *testing.T, s *stripe.Stripe) {
	t.Helper()
	if n, e := s.Size("a"); n != 90 || e != api.OK {
		t.Errorf("Size: %d %v", n, e)
	}
	if l, e := s.List(); len(l) != 2 || e != api.OK {
		t.Errorf("List: %v %v", l, e)
	}
}

func TestRefusedWith(t *testing.T) {
	full := func(d *platter.Disk) { // no room any more
		d.Create("ballast")
		d.Append("ballast", make([]byte, 1<<20-10000))
		for d.Append("ballast", make([]byte, 10)) == api.OK {
		}
	}
	fine := func(*platter.Disk) {}
	for _, c := range []struct {
		what        string
		a, b, c     func(*platter.Disk)
		write, read api.Errno
	}{
		{"all off", off, off, off, api.ErrOff, api.ErrOff},
		{"two off", off, fine, off, api.ErrOff, api.ErrOff},
		{"all down", down, down, down, api.ErrTwo, api.ErrTwo},
		{"one off, one down", off, down, fine, api.ErrTwo, api.ErrTwo},
		{"two full", full, full, fine, api.ErrQuota, api.OK},
		{"all full", full, full, full, api.ErrQuota, api.OK},
		{"one full, one down", full, down, fine, api.ErrQuota, api.OK},
		{"one full, one off", off, fine, full, api.ErrQuota, api.OK},
		{"one full, two off", off, full, off, api.ErrQuota, api.ErrOff},
	} {
		s, l := two(t)
		for i, fail := range []func(*platter.Disk){c.a, c.b, c.c} {
			fail(l[i])
		}
		into := make([]byte, 90)
		if n, e := s.ReadAt("a", 0, into); e != c.read || e != api.OK && (n != 0 || string(into) != string(make([]byte, 90))) {
			t.Errorf("%s: ReadAt: %d %v, not %v", c.what, n, e, c.read)
		}
		is(t, c.what+": Append", s.Append("b", rising(10)), c.write)
		if n, e := s.Size("b"); e != api.OK || n != 90 && (n != 100 || c.write != api.ErrTwo) {
			t.Errorf("%s: Size: %d %v", c.what, n, e)
		}
		if s.Out() != -1 {
			t.Errorf("%s: out %d", c.what, s.Out())
		}
		stands(t, s)
		is(t, c.what+": Append again", s.Append("b", rising(10)), api.ErrHalf)
		is(t, c.what+": Append of nothing", s.Append("b", nil), api.ErrHalf)
		is(t, c.what+": Sync", s.Sync("b"), api.ErrHalf)
		is(t, c.what+": Create", s.Create("c"), api.OK)
		is(t, c.what+": SyncDir", s.SyncDir(), c.write)
		is(t, c.what+": SyncDir again", s.SyncDir(), api.ErrHalf)
		is(t, c.what+": another Append", s.Append("a", nil), api.OK)
		if _, e := s.Scrub(); e != api.OK {
			t.Errorf("%s: Scrub: %v", c.what, e)
		}
	}
}

// What is refused behind a member that is out.
func TestRefusedBehindOneOut(t *testing.T) {
	for _, c := range []struct {
		fail func(*platter.Disk)
		want api.Errno
	}{{down, api.ErrTwo}, {off, api.ErrOff}} {
		s, l := two(t)
		down(l[0])
		is(t, "Append", s.Append("a", rising(1)), api.OK)
		if s.Out() != 0 {
			t.Errorf("out %d", s.Out())
		}
		is(t, "Sync", s.Sync("a"), api.OK)
		l[0].Mend() // it stays out
		c.fail(l[1])
		is(t, "Append", s.Append("b", rising(1)), c.want)
		is(t, "Sync", s.Sync("b"), api.ErrHalf)
		if _, e := s.ReadAt("a", 0, make([]byte, 90)); e != c.want {
			t.Errorf("ReadAt: %v, not %v", e, c.want)
		}
		is(t, "Create", s.Create("c"), api.OK)
		is(t, "SyncDir", s.SyncDir(), c.want)
		if s.Out() != 0 || l[0].Ops() > l[1].Ops()+20 {
			t.Errorf("out %d", s.Out())
		}
	}
}

// A stripe whose directory takes no more changes; which error comes first.
func TestHalfDirectory(t *testing.T) {
	s, l := two(t)
	is(t, "Create", s.Create("c"), api.OK)
	for _, d := range l {
		down(d)
	}
	is(t, "SyncDir", s.SyncDir(), api.ErrTwo)
	for _, d := range l {
		d.Mend()
	}
	for _, c := range []struct {
		what string
		got  api.Errno
		want api.Errno
	}{
		{"Create of no name", s.Create("A"), api.ErrVolName},
		{"Create of one that is there", s.Create("a"), api.ErrTaken},
		{"Create", s.Create("d"), api.ErrHalf},
		{"Rename to no name", s.Rename("zz", ""), api.ErrVolName},
		{"Rename of none", s.Rename("zz", "a"), api.ErrNoFile},
		{"Rename", s.Rename("a", "b"), api.ErrHalf},
		{"Rename to itself", s.Rename("a", "a"), api.ErrHalf},
		{"Remove of no name", s.Remove("A"), api.ErrVolName},
		{"Remove of none", s.Remove("zz"), api.ErrNoFile},
		{"Remove", s.Remove("a"), api.ErrHalf},
		{"SyncDir", s.SyncDir(), api.ErrHalf},
		{"Append to none", s.Append("zz", nil), api.ErrNoFile},
		{"Append", s.Append("a", rising(9)), api.OK},
		{"Sync of none", s.Sync("zz"), api.ErrNoFile},
		{"Sync", s.Sync("a"), api.ErrTwo}, // what it has to tell has no place any more
		{"Sync again", s.Sync("a"), api.ErrHalf},
	} {
		is(t, c.what, c.got, c.want)
	}
	if names, e := s.List(); e != api.OK || len(names) != 3 {
		t.Errorf("List: %v %v", names, e)
	}
	b := make([]byte, 100)
	if n, e := s.ReadAt("a", 0, b); n != 99 || e != api.OK {
		t.Errorf("ReadAt: %d %v", n, e)
	}
	again := opened(t, -1, l...)
	names, _ := again.List()
	if len(names) != 2 && len(names) != 3 {
		t.Errorf("List: %v", names)
	}
	is(t, "Create", again.Create("d"), api.OK)
	is(t, "SyncDir", again.SyncDir(), api.OK)
}

// A half file goes with its name; another one in its place is whole.
func TestHalfFile(t *testing.T) {
	s, l := two(t)
	for _, d := range l[:2] {
		d.Plan(api.Fault{Op: d.Ops() + 2, Kind: api.FaultWrite})
	}
	is(t, "Append", s.Append("a", rising(5)), api.ErrTwo)
	is(t, "Rename", s.Rename("a", "c"), api.OK)
	is(t, "Append", s.Append("c", rising(5)), api.ErrHalf)
	is(t, "Sync", s.Sync("c"), api.ErrHalf)
	is(t, "Create", s.Create("a"), api.OK)
	is(t, "Append", s.Append("a", rising(5)), api.OK)
	is(t, "Sync", s.Sync("a"), api.OK)
	is(t, "Rename", s.Rename("a", "c"), api.OK)
	is(t, "Append", s.Append("c", rising(5)), api.OK)
	is(t, "SyncDir", s.SyncDir(), api.OK)
	if s.Out() != -1 {
		t.Errorf("out %d", s.Out())
	}
	s = opened(t, -1, l...)
	if n, e := s.Size("c"); n != 10 || e != api.OK {
		t.Errorf("c: %d %v", n, e)
	}
}

func TestReplaceRefuses(t *testing.T) {
	s, l := two(t)
	full := disks(t, 1)[0]
	full.Create("f")
	dark := disks(t, 1)[0]
	off(dark)
	var none *platter.Disk
	empty := func() *platter.Disk { return disks(t, 1)[0] }
	is(t, "below", s.Replace(-1, nil), api.ErrArg)
	is(t, "above", s.Replace(3, full), api.ErrArg)
	is(t, "nil", s.Replace(0, nil), api.ErrNil)
	is(t, "a nil disk", s.Replace(0, none), api.ErrNil)
	is(t, "a full one", s.Replace(0, full), api.ErrMembers)
	is(t, "a dark one", s.Replace(0, dark), api.ErrOff)
	is(t, "another member", s.Replace(0, l[1]), api.ErrMembers)
	tight, _ := platter.New(100)
	is(t, "one without room", s.Replace(0, tight), api.ErrQuota)
	if s.Out() != -1 {
		t.Errorf("out %d", s.Out())
	}
	stands(t, s)
	down(l[1])
	is(t, "Append", s.Append("a", rising(1)), api.OK)
	is(t, "another is out", s.Replace(0, empty()), api.ErrTwo)
	is(t, "another is out, a full one", s.Replace(0, full), api.ErrMembers)
	is(t, "another is out, no such member", s.Replace(9, full), api.ErrArg)
	flipAll(l[2], 20)
	is(t, "what can't be read", s.Replace(1, empty()), api.ErrTwo)
	flipAll(l[2], 20) // they are right again
	l[2].Plan(api.Fault{Op: l[2].Ops() + 2, Kind: api.FaultWrite})
	is(t, "Append", s.Append("b", rising(1)), api.ErrTwo)
	is(t, "a half file", s.Replace(1, empty()), api.ErrHalf)
	is(t, "Remove", s.Remove("b"), api.OK)
	d := empty()
	is(t, "Replace", s.Replace(1, d), api.OK)
	if s.Out() != -1 {
		t.Errorf("out %d", s.Out())
	}
	is(t, "Create", s.Create("c"), api.OK)
	for _, d := range []*platter.Disk{l[0], l[2]} {
		d.Plan(api.Fault{Op: d.Ops() + 2, Kind: api.FaultWrite})
	}
	is(t, "SyncDir", s.SyncDir(), api.ErrTwo)
	is(t, "a half stripe", s.Replace(1, empty()), api.ErrHalf)
}

// A Replace of a good member mends what others have wrong: behind it each of them may be the bad one (P5.12).
func TestReplaceMends(t *testing.T) {
	for bad := range 3 {
		s, l := two(t)
		at := (bad + 1) % 3
		flipAll(l[bad], 20)
		d := disks(t, 1)[0]
		is(t, "Replace", s.Replace(at, d), api.OK)
		l[at] = d
		if r, e := s.Scrub(); e != api.OK || r != (api.Scrubbed{Files: 2}) {
			t.Errorf("Scrub: %v %v", r, e)
		}
		down(l[(bad+2)%3])
		b := make([]byte, 90)
		if n, e := s.ReadAt("b", 0, b); n != 90 || e != api.OK || string(b) != string(rising(90)) {
			t.Errorf("ReadAt: %d %v", n, e)
		}
	}
}

// What was not durable is so behind a Replace.
func TestReplaceSyncs(t *testing.T) {
	s, l := formatted(t, 3, 16)
	is(t, "SyncDir", s.SyncDir(), api.OK)
	d := disks(t, 1)[0]
	is(t, "Replace", s.Replace(1, d), api.OK)
	l[1] = d
	for _, d := range l {
		d.Restart(0)
	}
	tells(t, opened(t, -1, l...), rising(40))
}

// A member has written all of what it has refused, and can't be asked: should it be told some day, it belongs to the contents (P5.6, P5.7).
func TestRefusedYetWritten(t *testing.T) {
	for _, ask := range []bool{false, true} {
		s, l := two(t)
		torn := l[1].Ops() + 2
		l[1].Plan(api.Fault{Op: torn, Kind: api.FaultTorn, N: 1 << 20})
		if !ask {
			l[1].Plan(api.Fault{Op: torn + 1, Kind: api.FaultDown})
		}
		l[2].Plan(api.Fault{Op: l[2].Ops() + 2, Kind: api.FaultWrite})
		is(t, "Append", s.Append("a", rising(7)), api.ErrTwo)
		size, _ := s.Size("a")
		if size != 97 {
			t.Errorf("Size: %d", size)
		}
		l[1].Mend()
		b := make([]byte, 100)
		if n, e := s.ReadAt("a", 0, b); e != api.OK || n != 97 || string(b[90:97]) != string(rising(7)) {
			t.Errorf("ReadAt: %d %v", n, e)
		}
		again := opened(t, -1, l...)
		if n, e := again.Size("a"); e != api.OK || n > size {
			t.Errorf("Size: %d %v, it was %d", n, e, size)
		}
	}
}
