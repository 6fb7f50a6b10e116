package stripe_test

import (
	"bytes"
	"fmt"
	"maps"
	"math/rand/v2"
	"slices"
	"testing"

	"sluice/api"
	"sluice/platter"
	"sluice/stripe"
)

var _ api.Volume = (*stripe.Stripe)(nil)

// dice gives the same numbers at every run.
func dice(seed uint64) *rand.Rand { return rand.New(rand.NewPCG(5, seed)) }

// rig is a disk on which a fault can be set to strike some operations later, and be called off.
type rig struct {
	*platter.Disk
	wait  int // operations till it strikes; below 0: never
	fault api.Fault
	all   *machine // if its power goes, that of all does
	blink func()   // if there is one, it strikes in the fault's place
	hook  *count   // operations of all of a machine
	erred int      // calls that write and were answered an error that a good disk does not give here
	bytes int64    // the most that lay there
	files int
}

// count lets the power of all go at an operation, by its number over all of them.
type count struct{ at, made int }

type machine struct{ off bool }

func newRig(t *testing.T, quota int64) *rig {
	t.Helper()
	d, e := platter.New(quota)
	if e != api.OK {
		t.Fatal(e)
	}
	return &rig{Disk: d, wait: -1}
}

// step is what every operation begins with.
func (r *rig) step() {
	if r.hook != nil {
		if r.hook.made >= r.hook.at {
			r.wait, r.fault = 0, api.Fault{Kind: api.FaultOff}
		}
		r.hook.made++
	}
	if r.all != nil && r.all.off && r.wait != 0 {
		r.wait, r.fault = 0, api.Fault{Kind: api.FaultOff}
	}
	if r.wait == 0 && r.blink != nil {
		r.blink()
		r.blink = nil
	} else if r.wait == 0 {
		f := r.fault
		f.Op = r.Ops() + 1
		r.Plan(f)
		if r.all != nil && f.Kind == api.FaultOff {
			r.all.off = true
		}
	}
	r.wait--
}

// wrote takes in what a call that writes was answered.
func (r *rig) wrote(e api.Errno) api.Errno {
	if e == api.ErrIO || e == api.ErrOff {
		r.erred++
	}
	bytes, files := r.Disk.Used()
	r.bytes, r.files = max(r.bytes, bytes), max(r.files, files)
	return e
}

func (r *rig) Create(name string) api.Errno { r.step(); return r.wrote(r.Disk.Create(name)) }
func (r *rig) Append(name string, b []byte) api.Errno {
	r.step()
	return r.wrote(r.Disk.Append(name, b))
}
func (r *rig) Size(name string) (int64, api.Errno) { r.step(); return r.Disk.Size(name) }
func (r *rig) Sync(name string) api.Errno          { r.step(); return r.wrote(r.Disk.Sync(name)) }
func (r *rig) SyncDir() api.Errno                  { r.step(); return r.wrote(r.Disk.SyncDir()) }
func (r *rig) Rename(from, to string) api.Errno    { r.step(); return r.wrote(r.Disk.Rename(from, to)) }
func (r *rig) Remove(name string) api.Errno        { r.step(); return r.wrote(r.Disk.Remove(name)) }
func (r *rig) List() ([]string, api.Errno)         { r.step(); return r.Disk.List() }
func (r *rig) ReadAt(name string, at int64, b []byte) (int, api.Errno) {
	r.step()
	return r.Disk.ReadAt(name, at, b)
}

// tome is a file of the model.
type tome struct {
	data   []byte
	synced int
	half   bool
}

type shelf map[string]*tome

// world is a stripe, the disks beneath it, and what the document says that it holds.
type world struct {
	t       *testing.T
	rng     *rand.Rand
	rigs    []*rig
	s       *stripe.Stripe
	now     shelf
	moments []shelf // all directories since the last Open
	sure    int     // from this one on one of them is there behind the power's going
	half    bool
	strict  bool // at most one is bad: every call answers as a disk does
	trace   []string
}

func (w *world) volumes() []api.Volume {
	var l []api.Volume
	for _, r := range w.rigs {
		l = append(l, r)
	}
	return l
}

func newWorld(t *testing.T, rng *rand.Rand, n, unit int) *world {
	t.Helper()
	w := &world{t: t, rng: rng, now: shelf{}, strict: true}
	for range n {
		w.rigs = append(w.rigs, newRig(t, 1<<28))
	}
	s, e := stripe.Format(unit, w.volumes()...)
	if e != api.OK || s == nil || s.Out() != -1 || s.Members() != n || s.Unit() != unit {
		t.Fatalf("Format: %v", e)
	}
	w.s = s
	w.moments = []shelf{{}}
	return w
}

func (w *world) say(format string, args ...any) {
	w.trace = append(w.trace, fmt.Sprintf(format, args...))
}

func (w *world) fail(format string, args ...any) {
	w.t.Helper()
	if n := len(w.trace); n > 60 {
		w.trace = w.trace[n-60:]
	}
	for _, line := range w.trace {
		w.t.Log(line)
	}
	w.t.Fatalf(format, args...)
}

// refused tells whether an answer other than the model's is one that a stripe with too many bad members may give.
func (w *world) refused(what string, got, want api.Errno) bool {
	w.t.Helper()
	if got == want {
		return false
	}
	if want != api.OK || w.strict || got != api.ErrTwo && got != api.ErrOff && got != api.ErrQuota {
		w.fail("%s: %v, not %v", what, got, want)
	}
	return true
}

// alter takes in a change of the directory.
func (w *world) alter(do func(dir shelf)) {
	w.now = maps.Clone(w.now)
	do(w.now)
	w.moments = append(w.moments, w.now)
}

func valid(name string) bool { return len(name) > 0 && len(name) <= 48 && name[0] != '!' }

func (w *world) naming(what string, got api.Errno, wants []api.Errno, do func(dir shelf)) {
	w.t.Helper()
	want := api.OK
	for _, e := range wants {
		if want == api.OK {
			want = e
		}
	}
	if want == api.OK && w.half {
		want = api.ErrHalf
	}
	if w.refused(what, got, want) {
		w.half = true
	} else if want == api.OK {
		w.alter(do)
	}
}

func when(is bool, e api.Errno) api.Errno {
	if is {
		return e
	}
	return api.OK
}

func (w *world) create(name string) {
	w.t.Helper()
	got := w.s.Create(name)
	w.say("Create(%s): %d", name, got)
	w.naming("Create", got, []api.Errno{when(!valid(name), api.ErrVolName), when(w.now[name] != nil, api.ErrTaken)}, func(dir shelf) { dir[name] = &tome{} })
}

func (w *world) remove(name string) {
	w.t.Helper()
	got := w.s.Remove(name)
	w.say("Remove(%s): %d", name, got)
	w.naming("Remove", got, []api.Errno{when(!valid(name), api.ErrVolName), when(w.now[name] == nil, api.ErrNoFile)}, func(dir shelf) { delete(dir, name) })
}

func (w *world) rename(from, to string) {
	w.t.Helper()
	got := w.s.Rename(from, to)
	w.say("Rename(%s, %s): %d", from, to, got)
	w.naming("Rename", got, []api.Errno{when(!valid(from) || !valid(to), api.ErrVolName), when(w.now[from] == nil, api.ErrNoFile)}, func(dir shelf) {
		f := dir[from]
		delete(dir, from)
		dir[to] = f
	})
}

func (w *world) find(name string) (*tome, api.Errno) {
	f := w.now[name]
	if !valid(name) {
		return nil, api.ErrVolName
	}
	if f == nil {
		return nil, api.ErrNoFile
	}
	return f, api.OK
}

func (w *world) append(name string, data []byte) {
	w.t.Helper()
	f, want := w.find(name)
	if want == api.OK && f.half {
		want = api.ErrHalf
	}
	got := w.s.Append(name, data)
	w.say("Append(%s, %d): %d, out %d", name, len(data), got, w.s.Out())
	if want == api.OK && got == api.OK {
		f.data = append(f.data, data...)
	}
	if w.refused("Append", got, want) {
		f.half = true
		size, e := w.s.Size(name)
		if e != api.OK || size < int64(len(f.data)) || size > int64(len(f.data)+len(data)) {
			w.fail("Size behind an Append that was refused: %d %v, there were %d", size, e, len(f.data))
		}
		f.data = append(f.data, data[:size-int64(len(f.data))]...)
	}
}

func (w *world) sync(name string) {
	w.t.Helper()
	f, want := w.find(name)
	if want == api.OK && f.half {
		want = api.ErrHalf
	}
	got := w.s.Sync(name)
	w.say("Sync(%s): %d, out %d", name, got, w.s.Out())
	if w.refused("Sync", got, want) {
		f.half = true
	} else if want == api.OK {
		f.synced = len(f.data)
	}
}

func (w *world) syncDir() {
	w.t.Helper()
	got := w.s.SyncDir()
	w.say("SyncDir(): %d, out %d", got, w.s.Out())
	if w.refused("SyncDir", got, when(w.half, api.ErrHalf)) {
		w.half = true
	} else if got == api.OK {
		w.sure = len(w.moments) - 1
	}
}

func (w *world) readAt(name string, at int64, n int) {
	w.t.Helper()
	f, want := w.find(name)
	if want == api.OK && (at < 0 || at > int64(len(f.data))) {
		want = api.ErrPlace
	}
	b := bytes.Repeat([]byte{0xa5}, n)
	got, e := w.s.ReadAt(name, at, b)
	if w.refused(fmt.Sprintf("ReadAt(%s, %d, %d)", name, at, n), e, want) || want != api.OK {
		if got != 0 || !bytes.Equal(b, bytes.Repeat([]byte{0xa5}, n)) {
			w.fail("ReadAt with an error: %d bytes, or the buffer is changed", got)
		}
		return
	}
	told := f.data[at:]
	told = told[:min(n, len(told))]
	if got != len(told) || !bytes.Equal(b[:got], told) || !bytes.Equal(b[got:], bytes.Repeat([]byte{0xa5}, n-got)) {
		w.fail("ReadAt(%s, %d, %d): %d bytes, not %d, or others", name, at, n, got, len(told))
	}
}

// look asks what is always answered.
func (w *world) look() {
	w.t.Helper()
	names, e := w.s.List()
	if e != api.OK || !slices.Equal(names, slices.Sorted(maps.Keys(w.now))) {
		w.fail("List: %v %v, not %v", names, e, slices.Sorted(maps.Keys(w.now)))
	}
	for name, f := range w.now {
		if size, e := w.s.Size(name); e != api.OK || size != int64(len(f.data)) {
			w.fail("Size(%s): %d %v, not %d", name, size, e, len(f.data))
		}
	}
}

// readAll reads every file whole.
func (w *world) readAll() {
	w.t.Helper()
	w.look()
	for _, name := range slices.Sorted(maps.Keys(w.now)) {
		w.readAt(name, 0, len(w.now[name].data)+3)
	}
}

// restart lets the power of a disk go and come; it keeps what it likes.
func (w *world) restart(r *rig) {
	dir := w.rng.IntN(8) - 1
	if w.rng.IntN(3) == 0 {
		dir = 1 << 20
	}
	var keep []int64
	_, files := r.Used()
	for range files + 3 {
		k := int64(0)
		switch w.rng.IntN(4) {
		case 0:
			k = 1 << 30
		case 1:
			k = int64(w.rng.IntN(60))
		}
		keep = append(keep, k)
	}
	r.Disk.Restart(dir, keep...)
}

// reopened takes in what an Open has found: a directory from the moment first on, each file a beginning of its contents with what was durable of it (if that is promised).
func (w *world) reopened(s *stripe.Stripe, first int, durable bool) {
	w.t.Helper()
	names, e := s.List()
	if e != api.OK {
		w.fail("List: %v", e)
	}
	for i := len(w.moments) - 1; i >= first; i-- {
		if got := w.match(s, names, w.moments[i], durable); got != nil {
			w.s, w.now, w.moments, w.sure, w.half = s, got, []shelf{got}, 0, false
			w.readAll()
			return
		}
	}
	for i, m := range w.moments[first:] {
		var l []string
		for _, name := range slices.Sorted(maps.Keys(m)) {
			l = append(l, fmt.Sprintf("%s %d/%d", name, m[name].synced, len(m[name].data)))
		}
		w.say("moment %d: %v", i, l)
	}
	for _, name := range names {
		size, _ := s.Size(name)
		w.say("found %s: %d", name, size)
	}
	w.fail("Open: these files were never there")
}

// match tells whether a stripe may hold a directory of the model, and with which contents.
func (w *world) match(s *stripe.Stripe, names []string, dir shelf, durable bool) shelf {
	if !slices.Equal(names, slices.Sorted(maps.Keys(dir))) {
		return nil
	}
	got := shelf{}
	for name, f := range dir {
		size, e := s.Size(name)
		if e != api.OK || size > int64(len(f.data)) || durable && size < int64(f.synced) {
			return nil
		}
		b := make([]byte, size)
		n, e := s.ReadAt(name, 0, b)
		if e == api.OK && (int64(n) != size || !bytes.Equal(b, f.data[:size])) {
			return nil
		}
		got[name] = &tome{data: slices.Clone(f.data[:size]), synced: int(size)}
	}
	return got
}

// some gives bytes that differ.
func (w *world) some(n int) []byte {
	b := make([]byte, n)
	for i := range b {
		b[i] = byte(w.rng.Uint32())
	}
	return b
}

// act does something to the stripe.
func (w *world) act() {
	w.t.Helper()
	names := []string{"a", "b", "c", "d.new", "e"}
	name, other := names[w.rng.IntN(len(names))], names[w.rng.IntN(len(names))]
	if w.rng.IntN(50) == 0 {
		name = []string{"", "!"}[w.rng.IntN(2)]
	}
	row := (w.s.Members() - 1) * w.s.Unit()
	switch k := w.rng.IntN(100); {
	case k < 14:
		w.create(name)
	case k < 44:
		w.append(name, w.some([]int{0, 1, w.rng.IntN(row), row, w.rng.IntN(4 * row)}[w.rng.IntN(5)]))
	case k < 64:
		n := 0
		if f := w.now[name]; f != nil {
			n = len(f.data)
		}
		w.readAt(name, int64(w.rng.IntN(n+5)-2), w.rng.IntN(n+10))
	case k < 78:
		w.sync(name)
	case k < 88:
		w.syncDir()
	case k < 93:
		w.rename(name, other)
	case k < 96:
		w.remove(name)
	default:
		w.look()
	}
}
