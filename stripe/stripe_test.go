package stripe_test

import (
	"bytes"
	"fmt"
	"math"
	"slices"
	"strings"
	"testing"

	"sluice/api"
	"sluice/platter"
	"sluice/stripe"
)

// is holds an error against what it should be.
func is(t *testing.T, what string, got, want api.Errno) {
	t.Helper()
	if got != want {
		t.Errorf("%s: %v, not %v", what, got, want)
	}
}

func disks(t *testing.T, n int) []*platter.Disk {
	t.Helper()
	var l []*platter.Disk
	for range n {
		d, e := platter.New(1 << 20)
		if e != api.OK {
			t.Fatal(e)
		}
		l = append(l, d)
	}
	return l
}

func volumes(disks ...*platter.Disk) []api.Volume {
	var l []api.Volume
	for _, d := range disks {
		l = append(l, d)
	}
	return l
}

func rising(n int) []byte {
	var b []byte
	for i := range n {
		b = append(b, byte(i+1))
	}
	return b
}

// formatted gives a stripe with forty bytes in x, as example 1 has it.
func formatted(t *testing.T, n, unit int) (*stripe.Stripe, []*platter.Disk) {
	t.Helper()
	l := disks(t, n)
	s, e := stripe.Format(unit, volumes(l...)...)
	if s == nil || e != api.OK || s.Out() != -1 || s.Members() != n || s.Unit() != unit {
		t.Fatalf("Format: %v", e)
	}
	is(t, "Create", s.Create("x"), api.OK)
	is(t, "Append", s.Append("x", rising(40)), api.OK)
	return s, l
}

// tells holds what a stripe reads of x against what it should be.
func tells(t *testing.T, s *stripe.Stripe, want []byte) {
	t.Helper()
	b := make([]byte, len(want)+9)
	n, e := s.ReadAt("x", 0, b)
	if e != api.OK || !bytes.Equal(b[:n], want) {
		t.Errorf("x: %v, %d bytes", e, n)
	}
}

func opened(t *testing.T, out int, members ...*platter.Disk) *stripe.Stripe {
	t.Helper()
	s, e := stripe.Open(volumes(members...)...)
	if s == nil || e != api.OK || s.Out() != out {
		t.Fatalf("Open: %v, out %d, not %d", e, s.Out(), out)
	}
	return s
}

func refuses(t *testing.T, what string, want api.Errno, members ...api.Volume) {
	t.Helper()
	if s, e := stripe.Open(members...); s != nil || e != want {
		t.Errorf("Open of %s: %v, not %v", what, e, want)
	}
}

// down lets a disk fail from now on.
func down(d *platter.Disk) { d.Plan(api.Fault{Op: d.Ops() + 1, Kind: api.FaultDown}) }

func off(d *platter.Disk) { d.Plan(api.Fault{Op: d.Ops() + 1, Kind: api.FaultOff}) }

// flipAll turns a bit in each so many bytes of each file of a disk.
func flipAll(d *platter.Disk, step int64) {
	for _, f := range d.Stats() {
		for at := int64(0); at < f.Size; at += step {
			d.Flip(f.Name, 8*at)
		}
	}
}

func TestExamplePlain(t *testing.T) {
	s, _ := formatted(t, 3, 16)
	if n, e := s.Size("x"); n != 40 || e != api.OK {
		t.Errorf("Size: %d %v", n, e)
	}
	b := make([]byte, 20)
	if n, e := s.ReadAt("x", 30, b); n != 10 || e != api.OK || !bytes.Equal(b[:10], rising(40)[30:]) {
		t.Errorf("ReadAt: %d %v", n, e)
	}
	if l, e := s.List(); e != api.OK || !slices.Equal(l, []string{"x"}) {
		t.Errorf("List: %v %v", l, e)
	}
}

func TestExampleOneFailsThenTwo(t *testing.T) {
	for what, fail := range map[string]func(*platter.Disk){"down": down, "off": off} {
		s, l := formatted(t, 3, 16)
		fail(l[1])
		is(t, what+": Append", s.Append("x", []byte("abcde")), api.OK)
		is(t, what+": Sync", s.Sync("x"), api.OK)
		if s.Out() != 1 {
			t.Errorf("%s: out %d", what, s.Out())
		}
		want := append(rising(40), "abcde"...)
		tells(t, s, want)
		down(l[2])
		b := make([]byte, 45)
		if n, e := s.ReadAt("x", 0, b); n != 0 || e != api.ErrTwo {
			t.Errorf("%s: ReadAt: %d %v", what, n, e)
		}
		is(t, what+": Append", s.Append("x", []byte("more")), api.ErrTwo)
		is(t, what+": Sync", s.Sync("x"), api.ErrHalf)
		is(t, what+": Append again", s.Append("x", nil), api.ErrHalf)
		size, e := s.Size("x")
		if e != api.OK || size < 45 || size > 49 {
			t.Errorf("%s: Size: %d %v", what, size, e)
		}
		l[2].Mend()
		if n, e := s.ReadAt("x", 0, b); n != 45 || e != api.OK || !bytes.Equal(b, want) {
			t.Errorf("%s: what is half can't be read: %d %v", what, n, e)
		}
	}
}

func TestExampleTurned(t *testing.T) {
	s, l := formatted(t, 3, 16)
	is(t, "Sync", s.Sync("x"), api.OK)
	is(t, "SyncDir", s.SyncDir(), api.OK)
	scrubbed := func(want api.Scrubbed) {
		t.Helper()
		if r, e := s.Scrub(); e != api.OK || r != want {
			t.Errorf("Scrub: %v %v, not %v", r, e, want)
		}
	}
	scrubbed(api.Scrubbed{Files: 1})
	flipAll(l[2], 20)
	tells(t, s, rising(40))
	for at := range int64(41) {
		b := make([]byte, 7)
		if n, e := s.ReadAt("x", at, b); e != api.OK || !bytes.Equal(b[:n], rising(40)[at:min(40, at+7)]) {
			t.Errorf("ReadAt %d: %d %v", at, n, e)
		}
	}
	scrubbed(api.Scrubbed{Files: 1, Weak: 1})
	flipAll(l[1], 20)
	if n, e := s.ReadAt("x", 0, make([]byte, 40)); n != 0 || e != api.ErrTwo {
		t.Errorf("ReadAt: %d %v", n, e)
	}
	scrubbed(api.Scrubbed{Files: 1, Lost: 1})
	s.Create("y")
	scrubbed(api.Scrubbed{Files: 2, Lost: 1})
}

func TestExampleRenamed(t *testing.T) {
	w := newWorld(t, dice(5), 3, 16)
	for range 300 {
		s, l := formatted(t, 3, 16)
		s.Sync("x")
		s.Create("t")
		s.Append("t", []byte("new"))
		s.Sync("t")
		is(t, "SyncDir", s.SyncDir(), api.OK)
		is(t, "Rename", s.Rename("t", "x"), api.OK)
		if w.rng.IntN(2) == 0 {
			off(l[w.rng.IntN(3)])
			s.SyncDir()
		}
		for _, d := range l {
			w.restart(&rig{Disk: d})
		}
		s = opened(t, -1, l...)
		n, e := s.Size("x")
		_, f := s.Size("t")
		if e != api.OK || n != 40 && n != 3 || (f == api.OK) != (n == 40) {
			t.Fatalf("x has %d bytes (%v), t: %v", n, e, f)
		}
		tells(t, s, map[int64][]byte{40: rising(40), 3: []byte("new")}[n])
	}
}

func TestExampleOpened(t *testing.T) {
	s, l := formatted(t, 3, 16)
	s.Sync("x")
	s.SyncDir()
	a, b, c := l[0], l[1], l[2]
	refuses(t, "another order", api.ErrAlien, b, a, c)
	refuses(t, "two of three", api.ErrMembers, a, b)
	blank := disks(t, 4)
	tells(t, opened(t, 2, a.Copy(), b.Copy(), blank[0]), rising(40))
	refuses(t, "two empty ones and c", api.ErrTwo, blank[0], blank[1], c)
	if n, e := blank[0].List(); len(n) != 0 || e != api.OK {
		t.Errorf("a member that is out was written: %v", n)
	}
	s = opened(t, -1, l...)
	is(t, "Replace", s.Replace(2, blank[2]), api.OK)
	down(a)
	tells(t, s, rising(40))
	if s.Out() != -1 {
		t.Errorf("out %d", s.Out())
	}
	tells(t, opened(t, 0, a, b, blank[2]), rising(40))
}

func TestFormatRefuses(t *testing.T) {
	l := disks(t, 9)
	full := disks(t, 1)[0]
	full.Create("f")
	dark := disks(t, 1)[0]
	off(dark)
	var none *platter.Disk
	for _, c := range []struct {
		what    string
		unit    int
		members []api.Volume
		want    api.Errno
	}{
		{"none", 16, nil, api.ErrMembers},
		{"two", 16, volumes(l[:2]...), api.ErrMembers},
		{"nine", 16, volumes(l...), api.ErrMembers},
		{"two and nil", 16, []api.Volume{nil, nil}, api.ErrMembers},
		{"unit 15", 15, volumes(l[:3]...), api.ErrMembers},
		{"unit 65537", 65537, volumes(l[:3]...), api.ErrMembers},
		{"unit 0", 0, volumes(l[:3]...), api.ErrMembers},
		{"unit below 0", math.MinInt, volumes(l[:3]...), api.ErrMembers},
		{"unit 15 and nil", 15, []api.Volume{nil, nil, nil}, api.ErrMembers},
		{"nil", 16, []api.Volume{l[0], l[1], nil}, api.ErrNil},
		{"nil ahead of one that is full", 16, []api.Volume{full, nil, l[1]}, api.ErrNil},
		{"a nil disk", 16, []api.Volume{l[0], none, l[1]}, api.ErrNil},
		{"a full one", 16, []api.Volume{l[0], l[1], full}, api.ErrMembers},
		{"a dark one ahead of a full one", 16, []api.Volume{l[0], dark, full}, api.ErrOff},
		{"a full one ahead of a dark one", 16, []api.Volume{l[0], full, dark}, api.ErrMembers},
		{"one twice", 16, []api.Volume{disks(t, 1)[0], l[0], l[0]}, api.ErrTaken},
	} {
		if s, e := stripe.Format(c.unit, c.members...); s != nil || e != c.want {
			t.Errorf("%s: %v, not %v", c.what, e, c.want)
		}
	}
}

func TestFormatLimits(t *testing.T) {
	for n := api.MinMembers; n <= api.MaxMembers; n++ {
		for _, unit := range []int{api.MinUnit, 100, api.MaxUnit} {
			_, l := formatted(t, n, unit)
			s, e := stripe.Open(volumes(l...)...)
			if e != api.OK || s.Members() != n || s.Unit() != unit || s.Out() != -1 {
				t.Fatalf("Open of %d by %d: %v", n, unit, e)
			}
		}
	}
}

// Whatever fails in a Format is its answer; what is answered OK is durable.
func TestFormatFails(t *testing.T) {
	for kind := api.FaultWrite; kind <= api.FaultDown; kind++ {
		if kind == api.FaultRot {
			continue
		}
		for m := range 3 {
			for k := int64(1); ; k++ {
				l := disks(t, 3)
				l[m].Plan(api.Fault{Op: k, Kind: kind})
				s, e := stripe.Format(16, volumes(l...)...)
				if l[m].Ops() < k {
					break
				}
				want := api.ErrIO
				if kind == api.FaultOff {
					want = api.ErrOff
				}
				if s == nil && e != want || (s == nil) != (e != api.OK) {
					t.Errorf("kind %d at %d of %d: %v", kind, k, m, e)
				}
				for _, d := range l {
					d.Restart(0)
					d.Mend()
				}
				again, f := stripe.Open(volumes(l...)...)
				if f != api.OK && (e == api.OK || f != api.ErrTwo && f != api.ErrAlien) {
					t.Errorf("kind %d at %d of %d: %v, then Open: %v", kind, k, m, e, f)
				}
				if again != nil {
					if names, _ := again.List(); len(names) != 0 {
						t.Errorf("names: %v", names)
					}
				}
				for _, d := range l {
					is(t, "Wipe", stripe.Wipe(d), api.OK)
				}
				if _, e := stripe.Format(16, volumes(l...)...); e != api.OK {
					t.Errorf("Format again: %v", e)
				}
			}
		}
	}
}

func TestWipe(t *testing.T) {
	is(t, "nil", stripe.Wipe(nil), api.ErrNil)
	var none *platter.Disk
	is(t, "a nil disk", stripe.Wipe(none), api.ErrNil)
	_, l := formatted(t, 3, 16)
	l[0].Create("other")
	is(t, "Wipe", stripe.Wipe(l[0]), api.OK)
	l[0].Restart(0)
	if names, e := l[0].List(); len(names) != 0 || e != api.OK {
		t.Errorf("left: %v %v", names, e)
	}
	is(t, "of nothing", stripe.Wipe(l[0]), api.OK)
	for k := int64(1); k < 4; k++ {
		d := disks(t, 1)[0]
		d.Create("a")
		d.SyncDir()
		d.Plan(api.Fault{Op: 2 + k, Kind: api.FaultDown})
		is(t, fmt.Sprint("down at ", k), stripe.Wipe(d), api.ErrIO)
	}
}

func TestNoStripe(t *testing.T) {
	made, _ := formatted(t, 3, 16)
	byValue := *made
	for what, s := range map[string]*stripe.Stripe{"nil": nil, "new": new(stripe.Stripe), "a struct's copy": &byValue} {
		b := []byte("##")
		n, e1 := s.ReadAt("x", 0, b)
		z, e2 := s.Size("x")
		l, e3 := s.List()
		r, e4 := s.Scrub()
		for i, e := range []api.Errno{
			e1, e2, e3, e4, s.Create("a"), s.Create(""), s.Append("x", b), s.Sync("x"), s.SyncDir(), s.Rename("x", "b"), s.Rename("", ""), s.Remove("x"), s.Replace(0, disks(t, 1)[0]), s.Replace(-1, nil),
		} {
			is(t, fmt.Sprint(what, " call ", i), e, api.ErrNil)
		}
		if n != 0 || z != 0 || l != nil || r != (api.Scrubbed{}) || string(b) != "##" || s.Out() != -1 || s.Members() != 0 || s.Unit() != 0 {
			t.Errorf("%s: an answer that is not zero", what)
		}
	}
	tells(t, made, rising(40))
}

func TestOpenRefuses(t *testing.T) {
	s, l := formatted(t, 4, 16)
	s.Sync("x")
	s.SyncDir()
	blank := disks(t, 4)
	_, three := formatted(t, 3, 16)
	_, five := formatted(t, 5, 16)
	_, wide := formatted(t, 4, 32)
	foreign := disks(t, 4)
	for _, d := range foreign {
		d.Create("x")
	}
	begun := disks(t, 1)[0]
	begun.Create("log-00000001")
	v := volumes(l...)
	refuses(t, "none", api.ErrMembers)
	refuses(t, "nine", api.ErrMembers, append(v, append(v, v[0])...)...)
	refuses(t, "two, nil", api.ErrMembers, nil, nil)
	refuses(t, "nil", api.ErrNil, l[0], l[1], nil, l[3])
	refuses(t, "nil ahead of aliens", api.ErrNil, l[1], l[0], nil, l[3])
	refuses(t, "empty ones", api.ErrAlien, volumes(blank...)...)
	refuses(t, "others' files", api.ErrAlien, volumes(foreign...)...)
	refuses(t, "empty ones and a beginning", api.ErrTwo, blank[0], blank[1], blank[2], begun)
	refuses(t, "three empty ones", api.ErrTwo, l[0], blank[1], blank[2], blank[3])
	refuses(t, "two empty ones ahead of an alien", api.ErrTwo, l[1], l[0], blank[0], blank[1])
	refuses(t, "one twice", api.ErrAlien, l[0], l[0], l[2], l[3])
	refuses(t, "two exchanged, one empty", api.ErrAlien, l[1], l[0], blank[0], l[3])
	refuses(t, "too few of its members", api.ErrAlien, l[0], l[1], l[2])
	refuses(t, "one of three", api.ErrAlien, l[0], l[1], three[2], l[3])
	refuses(t, "four of five", api.ErrAlien, volumes(five[:4]...)...)
	refuses(t, "another unit", api.ErrAlien, l[0], l[1], l[2], wide[3])
	var none *platter.Disk
	s, e := stripe.Open(l[0].Copy(), none, l[2].Copy(), l[3].Copy())
	if e != api.OK || s.Out() != 1 {
		t.Errorf("a nil disk: %v, out %d", e, s.Out())
	}
	dark := func(who ...int) []api.Volume {
		var m []api.Volume
		for i, d := range l {
			c := d.Copy()
			if slices.Contains(who, i) {
				off(c)
			}
			m = append(m, c)
		}
		return m
	}
	refuses(t, "two without power", api.ErrTwo, dark(1, 2)...)
	refuses(t, "all without power", api.ErrTwo, dark(0, 1, 2, 3)...)
	s, e = stripe.Open(dark(2)...)
	if e != api.OK || s.Out() != 2 {
		t.Errorf("one without power: %v", e)
	}
	tells(t, s, rising(40))
}

// A member of another stripe in its right place is one that lies: the others tell what is right.
func TestOpenOverOthers(t *testing.T) {
	s, l := formatted(t, 3, 16)
	s.Sync("x")
	s.SyncDir()
	for m := range 3 {
		other, o := formatted(t, 3, 16)
		for i := range 50 {
			other.Create(fmt.Sprint("f", i))
			other.Append("x", []byte{byte(i)})
			other.Sync("x")
			other.SyncDir()
		}
		mixed := volumes(l[0].Copy(), l[1].Copy(), l[2].Copy())
		mixed[m] = o[m]
		again, e := stripe.Open(mixed...)
		if e != api.OK {
			t.Fatalf("Open: %v", e)
		}
		if names, _ := again.List(); !slices.Equal(names, []string{"x"}) {
			t.Errorf("names: %v", names)
		}
		tells(t, again, rising(40))
		if r, e := again.Scrub(); again.Out() == -1 && (e != api.OK || r != api.Scrubbed{Files: 1}) {
			t.Errorf("Scrub: %v %v", r, e)
		}
	}
}

// What a stripe answers for its names is what a disk answers.
func TestAsADisk(t *testing.T) {
	rng := dice(1)
	long := strings.Repeat("n", api.MaxVolName)
	names := []string{"a", "b.c", "d-e_f", "0", long, long + "n", "", "A", "a b", "a/b", "\xc3\xa4", "ü", "a\x00"}
	for i := range 60 {
		n, unit := sizes(i)
		d := disks(t, 1)[0]
		s, e := stripe.Format(unit, volumes(disks(t, n)...)...)
		if e != api.OK {
			t.Fatal(e)
		}
		for range 300 {
			name, other := names[rng.IntN(len(names))], names[rng.IntN(len(names))]
			if rng.IntN(3) > 0 {
				name = names[rng.IntN(3)]
			}
			data := rising(rng.IntN(3 * unit))
			at := []int64{0, 1, int64(rng.IntN(200)), -1, math.MaxInt64, math.MinInt64}[rng.IntN(6)]
			what := fmt.Sprintf("%q %q %d", name, other, at)
			var got, want any
			tell := func(v api.Volume, k int) any {
				switch k {
				case 0:
					return v.Create(name)
				case 1, 2:
					return v.Append(name, data)
				case 3, 4:
					b := rising(len(data))
					n, e := v.ReadAt(name, at, b)
					return fmt.Sprint(n, e, b)
				case 5:
					n, e := v.Size(name)
					return fmt.Sprint(n, e)
				case 6:
					return v.Sync(name)
				case 7:
					return v.SyncDir()
				case 8:
					return v.Rename(name, other)
				case 9:
					return v.Remove(name)
				}
				l, e := v.List()
				return fmt.Sprint(l, e)
			}
			k := rng.IntN(11)
			got, want = tell(s, k), tell(d, k)
			if got != want {
				t.Fatalf("call %d of %s: %v, not %v", k, what, got, want)
			}
		}
		if s.Out() != -1 {
			t.Errorf("out %d", s.Out())
		}
	}
}

func TestKeepsNothingOfTheCaller(t *testing.T) {
	s, _ := formatted(t, 3, 16)
	data := make([]byte, 50, 100)
	copy(data, rising(50))
	copy(data[50:100], bytes.Repeat([]byte{7}, 50))
	s.Append("x", data)
	if !bytes.Equal(data, rising(50)) || !bytes.Equal(data[50:100], bytes.Repeat([]byte{7}, 50)) {
		t.Error("Append changes what it is given")
	}
	clear(data)
	tells(t, s, append(rising(40), rising(50)...))
	names, _ := s.List()
	names[0] = "y"
	_ = append(names, "z")
	if again, _ := s.List(); !slices.Equal(again, []string{"x"}) {
		t.Errorf("List: %v", again)
	}
	l := disks(t, 3)
	members := volumes(l...)
	s, _ = stripe.Format(16, members...)
	clear(members)
	is(t, "Create", s.Create("x"), api.OK)
	is(t, "Append", s.Append("x", rising(40)), api.OK)
	tells(t, s, rising(40))
}
