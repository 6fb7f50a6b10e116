package sieve_test

import (
	"fmt"
	"hash/crc32"
	"math"
	"math/rand"
	"slices"
	"strings"
	"testing"

	"sluice/api"
	"sluice/platter"
	"sluice/reel"
	"sluice/sieve"
)

// names and titles of the updates' files of k parts.
func filesOf(k int) ([]string, []api.Title) {
	var names []string
	var titles []api.Title
	for p := range k {
		names = append(names, fmt.Sprintf("u%03d", p))
		titles = append(titles, api.Title{Family: api.FamUpdates, Width: 20, Tag: uint64(100 + p)})
	}
	return names, titles
}

// spillOf begins a spill of updates over k parts of n vertices, with so many places in a and so many bytes.
func spillOf(t testing.TB, v api.Volume, n uint32, k, room, bytes int) *sieve.Spill[api.Update] {
	t.Helper()
	names, titles := filesOf(k)
	s, err := sieve.NewSpill(v, names, titles, reel.UpdateForm(), split(t, n, k).ByTo, 2, make([]api.Update, room), make([]api.Update, room), make([]byte, bytes))
	if err != api.OK || s == nil {
		t.Fatalf("NewSpill: %v", err)
	}
	return s
}

func to(vs ...uint32) []api.Update {
	var us []api.Update
	for i, v := range vs {
		us = append(us, api.Update{To: v, A: uint64(i) + 1, B: uint64(v) << 40})
	}
	return us
}

func bodyOf(us ...api.Update) []byte {
	var b []byte
	for _, u := range us {
		b = append(b, updateBytes(u)...)
	}
	return b
}

// P9.6: what is refused ahead of any operation, and which refusal comes first
func TestNewSpillRefusals(t *testing.T) {
	part := split(t, 4, 2).ByTo
	form := reel.UpdateForm()
	names, titles := filesOf(2)
	many, manyTitles := filesOf(513)
	var none reel.Form[api.Update]
	two, one := make([]api.Update, 2), make([]api.Update, 1)
	type args struct {
		nothing bool
		names   []string
		titles  []api.Title
		form    reel.Form[api.Update]
		part    func(api.Update) int
		fan     int
		a, b    []api.Update
		bytes   int
		want    api.Errno
	}
	for i, x := range []args{
		{true, nil, nil, none, nil, 0, nil, nil, 0, api.ErrNil},
		{true, names, titles, form, part, 2, two, two, 64, api.ErrNil},
		{false, nil, nil, none, nil, 0, nil, nil, 0, api.ErrCut},
		{false, nil, nil, form, part, 2, two, two, 64, api.ErrCut},
		{false, []string{}, titles, form, part, 2, two, two, 64, api.ErrCut},
		{false, many, manyTitles, none, nil, 1, nil, nil, 0, api.ErrCut},
		{false, many, manyTitles, form, part, 2, two, two, 64, api.ErrCut},
		{false, names, titles[:1], form, part, 1, two, two, 64, api.ErrCut},
		{false, names[:1], titles, form, nil, 2, two, two, 64, api.ErrCut},
		{false, names, nil, form, part, 2, two, two, 64, api.ErrCut},
		{false, many[:512], manyTitles, form, part, 2, two, two, 64, api.ErrCut},
		{false, names, titles, none, nil, 1, nil, nil, 0, api.ErrFan},
		{false, names, titles, form, part, 257, two, two, 64, api.ErrFan},
		{false, names, titles, form, part, -1, two, two, 64, api.ErrFan},
		{false, names[:1], titles[:1], form, part, 0, two, two, 64, api.ErrFan},
		{false, names, titles, none, nil, 2, nil, nil, 0, api.ErrArg},
		{false, names, titles, form, nil, 256, two, two, 64, api.ErrArg},
		{false, names, titles, none, part, 2, nil, nil, 0, api.ErrTight},
		{false, names, titles, form, part, 2, nil, two, 64, api.ErrTight},
		{false, names, titles, form, part, 2, one[:0], one, 64, api.ErrTight},
		{false, names, titles, form, part, 2, two, one, 64, api.ErrTight},
		{false, names, titles, form, part, 2, two, nil, 64, api.ErrTight},
		// reel's own, in its order
		{false, names, titles, none, part, 2, two, two, 0, api.ErrArg},
		{false, names, []api.Title{{}, {}}, form, part, 2, two, two, 0, api.ErrTitle},
		{false, names, titles, form, part, 2, two, two, 43, api.ErrRoom},
	} {
		w := &wire{Volume: disk(t)}
		var v api.Volume = w
		if x.nothing {
			v = nil
		}
		s, err := sieve.NewSpill(v, x.names, x.titles, x.form, x.part, x.fan, x.a, x.b, make([]byte, x.bytes))
		if s != nil || err != x.want || len(w.calls) != 0 {
			t.Errorf("%d: %v, want %v; %v", i, err, x.want, w.calls)
		}
	}
	var gone *platter.Disk
	if s, err := sieve.NewSpill(gone, names, titles, form, part, 2, two, two, make([]byte, 64)); s != nil || err != api.ErrNil {
		t.Errorf("a disk that is none: %v", err)
	}
}

// P9.6: at their bounds
func TestNewSpillBounds(t *testing.T) {
	for _, x := range []struct{ k, fan, room, bytes int }{{1, 2, 1, 44}, {512, 2, 1, 44}, {512, 256, 3, 64}, {1, 256, 2, 1 << 21}} {
		names, titles := filesOf(x.k)
		d := disk(t)
		s, err := sieve.NewSpill(d, names, titles, reel.UpdateForm(), split(t, 600, x.k).ByTo, x.fan, make([]api.Update, x.room), make([]api.Update, x.room), make([]byte, x.bytes))
		if err != api.OK || s == nil {
			t.Fatalf("%+v: %v", x, err)
		}
		for v := range uint32(600) {
			if err := s.Put(api.Update{To: v}); err != api.OK {
				t.Fatalf("%+v: Put: %v", x, err)
			}
		}
		counts, _, err := s.Close()
		total := int64(0)
		for _, n := range counts {
			total += n
		}
		if err != api.OK || len(counts) != x.k || total != 600 {
			t.Errorf("%+v: %v %v", x, counts, err)
		}
	}
}

// P9.6: a fault at each of its operations: what was begun is removed, in the order of the parts; nothing else
func TestNewSpillFaults(t *testing.T) {
	names, titles := filesOf(3)
	begun := []string{line("Create", "u000", nil), line("Append", "u000", titleChunk(titles[0])), line("Create", "u001", nil), line("Append", "u001", titleChunk(titles[1])), line("Create", "u002", nil), line("Append", "u002", titleChunk(titles[2]))}
	for at := 1; at <= 6; at++ {
		for _, refuses := range []bool{false, true} {
			w := &wire{Volume: disk(t), fail: map[int]api.Errno{at: api.ErrQuota}, every: refuses}
			s, err := sieve.NewSpill(w, names, titles, reel.UpdateForm(), split(t, 3, 3).ByTo, 2, to(0), to(0), make([]byte, 64))
			if s != nil || err != api.ErrQuota {
				t.Errorf("fault at %d: %v", at, err)
			}
			want := slices.Clone(begun[:at])
			for _, name := range names[:at/2] {
				want = append(want, line("Remove", name, nil))
			}
			if !slices.Equal(w.calls, want) {
				t.Errorf("fault at %d: %q, want %q", at, w.calls, want)
			}
			if left := contents(t, w.Volume); len(left) != 0 && !refuses {
				t.Errorf("fault at %d: left %v", at, left)
			}
		}
	}
}

// P9.6: what reel refuses of a later file, and a name that is taken or none
func TestNewSpillLaterFiles(t *testing.T) {
	names, titles := filesOf(3)
	begin := func(names []string, titles []api.Title) (*wire, api.Errno) {
		w := &wire{Volume: disk(t)}
		w.Volume.Create("u001")
		w.Volume.Append("u001", []byte("mine"))
		s, err := sieve.NewSpill(w, names, titles, reel.UpdateForm(), split(t, 3, 3).ByTo, 2, to(0), to(0), make([]byte, 64))
		if s != nil {
			t.Error("a spill beside an error")
		}
		return w, err
	}
	others := slices.Clone(titles)
	others[2].Width = 19
	for i, x := range []struct {
		names  []string
		titles []api.Title
		want   api.Errno
		calls  string
	}{
		{names, titles, api.ErrTaken, "Create u000 | Append u000 | Create u001 | Remove u000"},
		{[]string{"a", "b", "c"}, others, api.ErrTitle, "Create a | Append a | Create b | Append b | Remove a | Remove b"},
		{[]string{"a", "B", "c"}, titles, api.ErrVolName, "Create a | Append a | Create B | Remove a"},
		{[]string{"a", "b", "a"}, titles, api.ErrTaken, "Create a | Append a | Create b | Append b | Create a | Remove a | Remove b"},
		{[]string{"", "b", "a"}, titles, api.ErrVolName, "Create "},
	} {
		w, err := begin(x.names, x.titles)
		var got []string
		for _, c := range w.calls {
			got = append(got, strings.Join(strings.SplitN(c, " ", 3)[:2], " "))
		}
		if err != x.want || strings.Join(got, " | ") != x.calls {
			t.Errorf("%d: %v, want %v; %q", i, err, x.want, got)
		}
		if left := contents(t, w.Volume); len(left) != 1 || left["u001"] != "mine" {
			t.Errorf("%d: left %v", i, left)
		}
	}
}

// P9.6: the lists of names and titles are not kept, nor changed
func TestNewSpillKeepsNoLists(t *testing.T) {
	names, titles := filesOf(2)
	d := disk(t)
	s, err := sieve.NewSpill(d, names, titles, reel.UpdateForm(), split(t, 4, 2).ByTo, 2, make([]api.Update, 2), make([]api.Update, 2), make([]byte, 64))
	if err != api.OK || names[0] != "u000" || names[1] != "u001" || titles[1].Tag != 101 {
		t.Fatalf("%v %v %v", names, titles, err)
	}
	names[0], names[1] = "x", "y"
	titles[0], titles[1] = api.Title{}, api.Title{}
	if s.Put(to(0, 3, 1)...) != api.OK {
		t.Error("Put")
	}
	if _, _, err := s.Close(); err != api.OK {
		t.Errorf("Close: %v", err)
	}
	if title, n, _, err := reel.Scan(d, "u001", make([]byte, 64)); err != api.OK || n != 1 || title.Tag != 101 {
		t.Errorf("Scan: %v %d %v", title, n, err)
	}
	if s.Drop() != api.OK || len(contents(t, d)) != 0 {
		t.Error("Drop")
	}
}

// P9.7, P9.8: when the buffer just fills, is not full, is filled many times
func TestPutFlushes(t *testing.T) {
	w := &wire{Volume: disk(t)}
	s := spillOf(t, w, 4, 2, 3, 64)
	w.calls = nil
	us := to(3, 0, 2, 1, 0, 0, 1)
	steps := []struct {
		do   func() api.Errno
		want []string
	}{
		{func() api.Errno { return s.Put() }, nil},
		{func() api.Errno { return s.Put(us[:2]...) }, nil},
		{func() api.Errno { return s.Put(us[2]) }, []string{line("Append", "u000", chunk(2, 1, 1, bodyOf(us[1]))), line("Append", "u001", chunk(2, 1, 2, bodyOf(us[0], us[2])))}},
		{s.Flush, nil},
		// Four more: three of them fill the buffer, all of one part, whose chunkful is two.
		{func() api.Errno { return s.Put(us[3:]...) }, []string{line("Append", "u000", chunk(2, 2, 2, bodyOf(us[3], us[4]))), line("Append", "u000", chunk(2, 3, 1, bodyOf(us[5])))}},
		{s.Flush, []string{line("Append", "u000", chunk(2, 4, 1, bodyOf(us[6])))}},
		{s.Flush, nil},
	}
	for i, x := range steps {
		w.calls = nil
		if err := x.do(); err != api.OK || !same(w.calls, x.want) {
			t.Errorf("step %d: %v %q, want %q", i, err, w.calls, x.want)
		}
	}
	w.calls = nil
	counts, sum, err := s.Close()
	first, second := bodyOf(us[1], us[3], us[4], us[5], us[6]), bodyOf(us[0], us[2])
	want := []string{line("Append", "u000", endChunk(5, 5, first)), line("Sync", "u000", nil), line("Append", "u001", endChunk(2, 2, second)), line("Sync", "u001", nil)}
	if err != api.OK || !slices.Equal(counts, []int64{5, 2}) || !slices.Equal(w.calls, want) {
		t.Errorf("Close: %v %v %q, want %q", counts, err, w.calls, want)
	}
	if sum != sumBy([]int64{5, 2}, [][]byte{first, second}) {
		t.Errorf("sum %08x", sum)
	}
}

// sumBy tells a spill's sum by P9.9's words.
func sumBy(counts []int64, bodies [][]byte) uint32 {
	var all []byte
	for p, n := range counts {
		for i := range 8 {
			all = append(all, byte(n>>(8*i)))
		}
		for i := range 4 {
			all = append(all, byte(crc32.ChecksumIEEE(bodies[p])>>(8*i)))
		}
	}
	return crc32.ChecksumIEEE(all)
}

// P9.7: a record of no part shuts it, and those ahead of it in the same call have been taken
func TestPutOfNoPart(t *testing.T) {
	for _, bad := range []uint32{4, math.MaxUint32} {
		w := &wire{Volume: disk(t)}
		s := spillOf(t, w, 4, 2, 2, 64)
		w.calls = nil
		us := to(0, 3, 1, bad, 0, 0)
		if err := s.Put(us...); err != api.ErrPart {
			t.Errorf("Put: %v", err)
		}
		want := []string{line("Append", "u000", chunk(2, 1, 1, bodyOf(us[0]))), line("Append", "u001", chunk(2, 1, 1, bodyOf(us[1])))}
		if !slices.Equal(w.calls, want) {
			t.Errorf("%q, want %q", w.calls, want)
		}
		holdShut(t, w, s)
		if err := s.Drop(); err != api.OK || len(contents(t, w.Volume)) != 0 {
			t.Errorf("Drop: %v", err)
		}
	}
	// A number that is a part of the ranges, but none of the spill's.
	names, titles := filesOf(2)
	for _, p := range []int{2, -1, math.MaxInt, math.MinInt} {
		s, _ := sieve.NewSpill(disk(t), names, titles, reel.UpdateForm(), func(api.Update) int { return p }, 2, to(0, 0), to(0, 0), make([]byte, 64))
		if err := s.Put(api.Update{}); err != api.ErrPart {
			t.Errorf("part %d: %v", p, err)
		}
	}
}

// holdShut asks for all that a shut spill refuses, and that nothing is asked of the volume by it.
func holdShut(t *testing.T, w *wire, s *sieve.Spill[api.Update]) {
	t.Helper()
	w.calls = nil
	counts, sum, err := s.Close()
	if err != api.ErrShut || counts != nil || sum != 0 {
		t.Errorf("Close of a shut one: %v %d %v", counts, sum, err)
	}
	for i, err := range []api.Errno{s.Put(), s.Put(to(0)...), s.Put(to(99)...), s.Flush()} {
		if err != api.ErrShut {
			t.Errorf("call %d of a shut one: %v", i, err)
		}
	}
	if len(w.calls) != 0 {
		t.Errorf("a shut one asks for %q", w.calls)
	}
}

// P9.7 to P9.10: of nil ones, and of one that NewSpill has not made
func TestSpillOfNothing(t *testing.T) {
	var none *sieve.Spill[api.Update]
	for i, s := range []*sieve.Spill[api.Update]{none, new(sieve.Spill[api.Update])} {
		counts, sum, err := s.Close()
		if err != api.ErrNil || counts != nil || sum != 0 {
			t.Errorf("%d: Close: %v %d %v", i, counts, sum, err)
		}
		for j, err := range []api.Errno{s.Put(), s.Put(to(1)...), s.Flush(), s.Drop(), s.Drop()} {
			if err != api.ErrNil {
				t.Errorf("%d: call %d: %v", i, j, err)
			}
		}
	}
}

// P9.9: nothing was put; one part; the list is new
func TestCloseOfNothing(t *testing.T) {
	for _, k := range []int{1, 2, 5} {
		w := &wire{Volume: disk(t)}
		s := spillOf(t, w, 5, k, 1, 44)
		names, _ := filesOf(k)
		w.calls = nil
		counts, sum, err := s.Close()
		var want []string
		for _, name := range names {
			want = append(want, line("Append", name, endChunk(1, 0, nil)), line("Sync", name, nil))
		}
		if err != api.OK || !slices.Equal(counts, make([]int64, k)) || sum != sumBy(counts, make([][]byte, k)) || !slices.Equal(w.calls, want) {
			t.Errorf("%d parts: %v %08x %v %q", k, counts, sum, err, w.calls)
		}
		holdShut(t, w, s)
	}
}

// P9.10
func TestDrop(t *testing.T) {
	for i, ahead := range []func(s *sieve.Spill[api.Update], w *wire){
		func(*sieve.Spill[api.Update], *wire) {},
		func(s *sieve.Spill[api.Update], _ *wire) { s.Put(to(0, 1, 2)...) },
		func(s *sieve.Spill[api.Update], _ *wire) { s.Put(to(0, 1, 2)...); s.Close() },
		func(s *sieve.Spill[api.Update], _ *wire) { s.Put(to(77)...) },
		func(s *sieve.Spill[api.Update], w *wire) {
			w.fail[len(w.calls)+1] = api.ErrIO
			s.Put(to(0, 1, 2)...)
			s.Flush()
		},
		func(_ *sieve.Spill[api.Update], w *wire) { w.Volume.Remove("u001") },
	} {
		w := &wire{Volume: disk(t), fail: map[int]api.Errno{}}
		w.Volume.Create("other")
		s := spillOf(t, w, 3, 3, 2, 64)
		ahead(s, w)
		w.calls, w.fail = nil, nil
		want := []string{line("Remove", "u000", nil), line("Remove", "u001", nil), line("Remove", "u002", nil)}
		if err := s.Drop(); err != api.OK || !slices.Equal(w.calls, want) {
			t.Errorf("%d: %v %q", i, err, w.calls)
		}
		if left := contents(t, w.Volume); len(left) != 1 {
			t.Errorf("%d: left %v", i, left)
		}
		w.calls = nil
		if err := s.Drop(); err != api.ErrState || len(w.calls) != 0 {
			t.Errorf("%d: once more: %v %q", i, err, w.calls)
		}
		holdShut(t, w, s)
	}
}

// P9.10: all files are asked for, and the first error but ErrNoFile is told; it is dropped all the same
func TestDropErrors(t *testing.T) {
	for i, x := range []struct {
		fail map[int]api.Errno
		want api.Errno
	}{
		{map[int]api.Errno{1: api.ErrIO}, api.ErrIO},
		{map[int]api.Errno{2: api.ErrIO, 3: api.ErrOff}, api.ErrIO},
		{map[int]api.Errno{1: api.ErrNoFile, 2: api.ErrOff, 3: api.ErrIO}, api.ErrOff},
		{map[int]api.Errno{3: api.ErrQuota}, api.ErrQuota},
		{map[int]api.Errno{1: api.ErrNoFile, 2: api.ErrNoFile, 3: api.ErrNoFile}, api.OK},
		{map[int]api.Errno{1: api.ErrIO, 2: api.ErrNoFile, 3: api.ErrNoFile}, api.ErrIO},
	} {
		w := &wire{Volume: disk(t)}
		s := spillOf(t, w, 3, 3, 2, 64)
		w.calls, w.fail = nil, x.fail
		if err := s.Drop(); err != x.want || len(w.calls) != 3 {
			t.Errorf("%d: %v, want %v; %q", i, err, x.want, w.calls)
		}
		if err := s.Drop(); err != api.ErrState {
			t.Errorf("%d: once more: %v", i, err)
		}
		holdShut(t, w, s)
	}
}

// P9.6 to P9.10 against their second reading, call by call: many worlds of puts, flushes, closes, drops and faults
func TestSpillAgainstSketch(t *testing.T) {
	r := rand.New(rand.NewSource(4))
	for i := range 30000 {
		if !spillWorld(t, r, i) {
			return
		}
	}
}

func spillWorld(t *testing.T, r *rand.Rand, i int) bool {
	k := r.Intn(5) + 1
	names, titles := filesOf(k)
	fail := map[int]api.Errno{}
	for range r.Intn(3) {
		fail[r.Intn(30)+1] = []api.Errno{api.ErrIO, api.ErrQuota, api.ErrNoFile, api.ErrOff}[r.Intn(4)]
	}
	var there []string
	d := disk(t)
	if r.Intn(8) == 0 {
		there = []string{names[r.Intn(k)]}
		d.Create(there[0])
	}
	part := func(s string) int { return int(s[0]) - '0' }
	room, width := r.Intn(5)+1, r.Intn(6)+1
	bytes := max(36, 24+width) + r.Intn(20)
	for p := range titles {
		titles[p].Width = width
	}
	w := &wire{Volume: d, fail: fail}
	a, wholeA := spare(room, "a")
	b, wholeB := spare(room+r.Intn(3), "b")
	behind := slices.Clone(b[room:])
	buf, wholeBuf := spare(bytes, byte(0xee))
	s, err := sieve.NewSpill(w, names, titles, reel.TextForm(width), part, r.Intn(4)+2, a, b, buf)
	m := &sketch[string]{w: worldOf(fail, there...), bytesOf: func(s string) []byte { return []byte(s + "\x00\x00\x00\x00\x00\x00")[:width] }, part: part, width: width, room: room, bytes: bytes}
	if want := m.begin(names, titles); err != want || (s == nil) != (want != api.OK) {
		t.Errorf("world %d: NewSpill: %v, want %v", i, err, want)
		return false
	}
	if err == api.OK {
		for step := range r.Intn(9) {
			if !spillStep(t, r, s, m, k) {
				t.Errorf("world %d, step %d: other answers", i, step)
				return false
			}
		}
	}
	if !slices.Equal(w.calls, m.w.calls) {
		t.Errorf("world %d: other calls:\n%q, want\n%q", i, w.calls, m.w.calls)
		return false
	}
	if !wholeA() || !wholeB() || !wholeBuf() || !slices.Equal(b[room:], behind) {
		t.Errorf("world %d: a place that is not the spill's was changed", i)
		return false
	}
	return true
}

// spillStep makes one call of both, and tells whether they answer the same.
func spillStep(t *testing.T, r *rand.Rand, s *sieve.Spill[string], m *sketch[string], k int) bool {
	switch x := r.Intn(12); {
	case x < 8:
		var ts []string
		for range r.Intn(7) {
			ts = append(ts, fmt.Sprintf("%d%03d", r.Intn(k), r.Intn(1000)))
		}
		if r.Intn(20) == 0 && len(ts) > 0 {
			ts[r.Intn(len(ts))] = []string{"/", string(rune('0' + k))}[r.Intn(2)]
		}
		return s.Put(ts...) == m.put(ts...)
	case x < 10:
		return s.Flush() == m.flush()
	case x < 11:
		counts, sum, err := s.Close()
		want, _, wantSum, wantErr := m.close()
		return same(counts, want) && sum == wantSum && err == wantErr
	}
	return s.Drop() == m.drop()
}

// P9.6: the buffers are the caller's again behind Close, Drop and an error
func TestBuffersAreGivenBack(t *testing.T) {
	for i, end := range []func(s *sieve.Spill[api.Update]){
		func(s *sieve.Spill[api.Update]) { s.Close() },
		func(s *sieve.Spill[api.Update]) { s.Drop() },
		func(s *sieve.Spill[api.Update]) { s.Put(to(99)...) },
	} {
		names, titles := filesOf(2)
		a, b, buf := make([]api.Update, 4), make([]api.Update, 4), make([]byte, 64)
		s, err := sieve.NewSpill(disk(t), names, titles, reel.UpdateForm(), split(t, 4, 2).ByTo, 2, a, b, buf)
		if err != api.OK {
			t.Fatalf("NewSpill: %v", err)
		}
		s.Put(to(0, 3)...)
		end(s)
		clear(a)
		clear(b)
		clear(buf)
		s.Put(to(1, 2, 3, 0, 1)...)
		s.Flush()
		s.Close()
		s.Drop()
		if slices.ContainsFunc(append(slices.Clone(a), b...), func(u api.Update) bool { return u != api.Update{} }) || slices.ContainsFunc(buf, func(x byte) bool { return x != 0 }) {
			t.Errorf("%d: it writes into buffers that are not its own any more", i)
		}
	}
}

// P0.1: a part function that answers otherwise when it is asked again gives no panic
func TestSpillOfAnUnsteadyPart(t *testing.T) {
	r := rand.New(rand.NewSource(8))
	for range 2000 {
		k := r.Intn(5) + 1
		names, titles := filesOf(k)
		calls := 0
		part := func(api.Update) int {
			calls++
			return r.Intn(k+calls/5) - calls/9
		}
		s, err := sieve.NewSpill(disk(t), names, titles, reel.UpdateForm(), part, 2, make([]api.Update, 3), make([]api.Update, 3), make([]byte, 64))
		if err != api.OK {
			t.Fatalf("NewSpill: %v", err)
		}
		s.Put(to(1, 2, 3, 4, 5, 6, 7)...)
		if counts, sum, err := s.Close(); err != api.OK && (counts != nil || sum != 0) {
			t.Fatalf("Close: %v %d %v", counts, sum, err)
		}
	}
}

// P9.8, P9.9: two spills that share their bytes, put to by turns
func TestSpillsShareBytes(t *testing.T) {
	d, bytes := disk(t), make([]byte, 64)
	var spills []*sieve.Spill[string]
	for i := range 2 {
		names := []string{fmt.Sprintf("s%d-0", i), fmt.Sprintf("s%d-1", i)}
		titles := slices.Repeat([]api.Title{{Family: 9, Width: 4}}, 2)
		s, err := sieve.NewSpill(d, names, titles, reel.TextForm(4), func(s string) int { return int(s[0] - '0') }, 2, make([]string, 3), make([]string, 3), bytes)
		if err != api.OK {
			t.Fatalf("NewSpill: %v", err)
		}
		spills = append(spills, s)
	}
	var want [4]string
	for j := range 50 {
		i, p := j%2, j/3%2
		text := fmt.Sprintf("%d%03d", p, j)
		want[2*i+p] += text
		if err := spills[i].Put(text); err != api.OK {
			t.Fatalf("Put: %v", err)
		}
	}
	for i, s := range spills {
		if _, _, err := s.Close(); err != api.OK {
			t.Fatalf("Close: %v", err)
		}
		for p := range 2 {
			r, err := reel.Open(d, fmt.Sprintf("s%d-%d", i, p), api.Title{Family: 9, Width: 4}, reel.TextForm(4), make([]byte, 64))
			got := ""
			for _, text := range r.All() {
				got += text
			}
			if err != api.OK || !r.Done() || got != want[2*i+p] {
				t.Errorf("spill %d, part %d: %q, want %q; %v", i, p, got, want[2*i+p], r.Code())
			}
		}
	}
}

// P9.8: whatever a fault of a disk leaves of a chunk, the spill is shut with it
func TestSpillOnAFaultyDisk(t *testing.T) {
	for op := int64(1); op <= 17; op++ {
		for _, kind := range []int{api.FaultWrite, api.FaultTorn, api.FaultSync, api.FaultOff, api.FaultDown} {
			d := disk(t, api.Fault{Op: op, Kind: kind, N: 5})
			w := &wire{Volume: d}
			names, titles := filesOf(2)
			s, err := sieve.NewSpill(w, names, titles, reel.UpdateForm(), split(t, 4, 2).ByTo, 2, make([]api.Update, 2), make([]api.Update, 2), make([]byte, 64))
			if err == api.OK {
				for i := range 5 {
					if err == api.OK {
						err = s.Put(api.Update{To: uint32(i % 4)})
					}
				}
				if err == api.OK {
					_, _, err = s.Close()
				}
				holdShut(t, w, s)
				d.Restart(99, 1<<30, 1<<30)
				d.Mend()
				s.Drop()
			} else {
				d.Restart(99, 1<<30, 1<<30)
				d.Mend()
			}
			if err == api.OK && d.Ops() >= op && struck(kind, op) {
				t.Errorf("operation %d, fault %d: not told", op, kind)
			}
		}
	}
}

// struck tells whether a fault of this kind strikes in the operation of that number, in TestSpillOnAFaultyDisk's order: two Creates with titles, two full buffers of one part each, the last record, two ends with Syncs.
func struck(kind int, op int64) bool {
	ops := "CACA" + "A" + "A" + "A" + "ASAS"
	if op > int64(len(ops)) {
		return false
	}
	switch kind {
	case api.FaultWrite, api.FaultTorn:
		return ops[op-1] == 'A'
	case api.FaultSync:
		return ops[op-1] == 'S'
	}
	return true
}
