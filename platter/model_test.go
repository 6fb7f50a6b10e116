package platter_test

import (
	"fmt"
	"maps"
	"math/rand/v2"
	"slices"
	"strings"
	"testing"

	"sluice/api"
	"sluice/platter"
)

// model is a disk as the document tells it, without a thought for speed: every state of the directory is kept whole, files are texts by number.
type model struct {
	quota  int64
	plan   []api.Fault
	ops    int64
	off    bool
	down   bool
	files  []modelFile
	states []map[string]int // behind SyncDir, and behind each change since
}

type modelFile struct {
	data   string
	synced int
	ended  int64
	told   api.VolStat
}

func (m *model) dir() map[string]int { return m.states[len(m.states)-1] }

func (m *model) used() (all int64) {
	for _, i := range m.dir() {
		all += int64(len(m.files[i].data))
	}
	return all
}

// begin is P3.3, for an operation that these kinds of faults fit.
func (m *model) begin(kinds ...int) (api.Fault, api.Errno) {
	m.ops++
	if m.off {
		return api.Fault{}, api.ErrOff
	}
	kinds = append(kinds, api.FaultOff, api.FaultDown)
	var struck api.Fault
	for _, f := range m.plan {
		if f.Op == m.ops && slices.Contains(kinds, f.Kind) {
			struck = f
			break
		}
	}
	if struck.Kind == api.FaultOff {
		m.off = true
		return struck, api.ErrOff
	}
	m.down = m.down || struck.Kind == api.FaultDown
	if m.down || struck.Kind == api.FaultRead || struck.Kind == api.FaultWrite || struck.Kind == api.FaultSync {
		return struck, api.ErrIO
	}
	return struck, api.OK
}

func valid(name string) bool {
	return len(name) > 0 && len(name) <= 48 && strings.Trim(name, "abcdefghijklmnopqrstuvwxyz0123456789.-_") == ""
}

func (m *model) file(name string) (*modelFile, api.Errno) {
	if !valid(name) {
		return nil, api.ErrVolName
	}
	i, ok := m.dir()[name]
	if !ok {
		return nil, api.ErrNoFile
	}
	return &m.files[i], api.OK
}

// alter makes the next state of the directory.
func (m *model) alter(by func(dir map[string]int)) {
	next := maps.Clone(m.dir())
	by(next)
	m.states = append(m.states, next)
}

func (m *model) create(name string) api.Errno {
	if _, e := m.begin(); e != api.OK {
		return e
	}
	if _, e := m.file(name); e != api.ErrNoFile {
		return map[api.Errno]api.Errno{api.ErrVolName: api.ErrVolName, api.OK: api.ErrTaken}[e]
	}
	m.files = append(m.files, modelFile{})
	m.alter(func(dir map[string]int) { dir[name] = len(m.files) - 1 })
	return api.OK
}

func (m *model) append(name, data string) api.Errno {
	struck, e := m.begin(api.FaultWrite, api.FaultTorn, api.FaultRot)
	if e != api.OK {
		return e
	}
	f, e := m.file(name)
	if e != api.OK {
		return e
	}
	if m.used()+int64(len(data)) > m.quota {
		return api.ErrQuota
	}
	if struck.Kind == api.FaultTorn {
		data, e = data[:max(0, min(struck.N, int64(len(data))))], api.ErrIO
	}
	f.data += data
	f.told.Writes++
	f.told.WroteBytes += int64(len(data))
	if struck.Kind == api.FaultRot {
		f.data = turned(f.data, struck.N)
	}
	return e
}

func (m *model) readAt(name string, at int64, room int) (string, api.Errno) {
	struck, e := m.begin(api.FaultRead, api.FaultShort, api.FaultGhost, api.FaultRot)
	if e != api.OK {
		return "", e
	}
	f, e := m.file(name)
	if e != api.OK {
		return "", e
	}
	if at < 0 || at > int64(len(f.data)) {
		return "", api.ErrPlace
	}
	if struck.Kind == api.FaultRot {
		f.data = turned(f.data, struck.N)
	}
	got := f.data[at:]
	got = got[:min(len(got), room)]
	if struck.Kind == api.FaultShort {
		got = got[:max(0, min(struck.N, int64(len(got))))]
	}
	f.told.Reads++
	f.told.ReadBytes += int64(len(got))
	if at != f.ended {
		f.told.Seeks++
	}
	f.ended = at + int64(len(got))
	if struck.Kind == api.FaultGhost {
		got = turned(got, struck.N)
	}
	return got, api.OK
}

func (m *model) sync(name string) api.Errno {
	if _, e := m.begin(api.FaultSync); e != api.OK {
		return e
	}
	f, e := m.file(name)
	if e == api.OK {
		f.synced = len(f.data)
	}
	return e
}

func (m *model) syncDir() api.Errno {
	_, e := m.begin(api.FaultSync)
	if e == api.OK {
		m.states = m.states[len(m.states)-1:]
	}
	return e
}

func (m *model) rename(from, to string) api.Errno {
	if _, e := m.begin(); e != api.OK {
		return e
	}
	if !valid(from) || !valid(to) {
		return api.ErrVolName
	}
	i, ok := m.dir()[from]
	if !ok {
		return api.ErrNoFile
	}
	if from != to {
		m.alter(func(dir map[string]int) {
			delete(dir, from)
			dir[to] = i
		})
	}
	return api.OK
}

func (m *model) remove(name string) api.Errno {
	if _, e := m.begin(); e != api.OK {
		return e
	}
	_, e := m.file(name)
	if e == api.OK {
		m.alter(func(dir map[string]int) { delete(dir, name) })
	}
	return e
}

func (m *model) restart(dir int, keep []int64) {
	state := m.states[max(0, min(dir, len(m.states)-1))]
	m.states = []map[string]int{state}
	m.off = false
	for j, name := range slices.Sorted(maps.Keys(state)) {
		f := &m.files[state[name]]
		size := int64(f.synced)
		if j < len(keep) && keep[j] > 0 {
			size += min(keep[j], int64(len(f.data)-f.synced))
		}
		f.data, f.synced = f.data[:size], int(size)
	}
}

func (m *model) stats() (list []api.VolStat) {
	for _, name := range slices.Sorted(maps.Keys(m.dir())) {
		f := m.files[m.dir()[name]]
		f.told.Name, f.told.Size, f.told.Synced = name, int64(len(f.data)), int64(f.synced)
		list = append(list, f.told)
	}
	return list
}

func (m *model) flip(name string, bit int64) api.Errno {
	f, e := m.file(name)
	switch {
	case e != api.OK:
		return e
	case bit < 0 || bit >= int64(8*len(f.data)):
		return api.ErrPlace
	}
	f.data = turned(f.data, bit)
	return api.OK
}

// step makes one call, the same of both, and tells what both answered.
func step(r *rand.Rand, d *platter.Disk, m *model) (call, got, want string) {
	names := []string{"a", "b", "c", "d", "e.new", "a", "b", "c", "d", "B", ""}
	name := names[r.IntN(len(names))]
	other := names[r.IntN(len(names))]
	switch r.IntN(16) {
	case 0, 1:
		return "Create " + name, fmt.Sprint(d.Create(name)), fmt.Sprint(m.create(name))
	case 2, 3, 4:
		data := strings.Repeat(string(rune('A'+r.IntN(26))), r.IntN(12))
		return "Append " + name, fmt.Sprint(d.Append(name, []byte(data))), fmt.Sprint(m.append(name, data))
	case 5, 6:
		at, room := int64(r.IntN(30)-1), r.IntN(20)
		b := []byte(strings.Repeat("#", 20))
		n, e := d.ReadAt(name, at, b[:room])
		data, e2 := m.readAt(name, at, room)
		return fmt.Sprint("ReadAt ", name, at, room), fmt.Sprint(string(b), n, e), fmt.Sprint(data+strings.Repeat("#", 20-len(data)), len(data), e2)
	case 7:
		n, e := d.Size(name)
		_, e2 := m.begin()
		size := 0
		if e2 == api.OK {
			var f *modelFile
			if f, e2 = m.file(name); e2 == api.OK {
				size = len(f.data)
			}
		}
		return "Size " + name, fmt.Sprint(n, e), fmt.Sprint(size, e2)
	case 8, 9:
		return "Sync " + name, fmt.Sprint(d.Sync(name)), fmt.Sprint(m.sync(name))
	case 10:
		return "SyncDir", fmt.Sprint(d.SyncDir()), fmt.Sprint(m.syncDir())
	case 11:
		return "Rename " + name + " " + other, fmt.Sprint(d.Rename(name, other)), fmt.Sprint(m.rename(name, other))
	case 12:
		return "Remove " + name, fmt.Sprint(d.Remove(name)), fmt.Sprint(m.remove(name))
	case 13:
		l, e := d.List()
		_, e2 := m.begin()
		var names []string
		if e2 == api.OK {
			names = slices.Sorted(maps.Keys(m.dir()))
		}
		return "List", fmt.Sprint(l, e), fmt.Sprint(names, e2)
	case 14:
		bit := int64(r.IntN(100) - 3)
		return "Flip " + name, fmt.Sprint(d.Flip(name, bit)), fmt.Sprint(m.flip(name, bit))
	}
	return rare(r, d, m)
}

// rare makes one of the calls that are no operations.
func rare(r *rand.Rand, d *platter.Disk, m *model) (call, got, want string) {
	switch r.IntN(5) {
	case 0, 1:
		dir := r.IntN(9) - 2
		keep := make([]int64, r.IntN(5))
		for i := range keep {
			keep[i] = int64(r.IntN(14) - 2)
		}
		m.restart(dir, keep)
		return fmt.Sprint("Restart ", dir, keep), fmt.Sprint(d.Restart(dir, keep...)), fmt.Sprint(api.OK)
	case 2:
		for _, i := range m.dir() {
			m.files[i].told, m.files[i].ended = api.VolStat{}, 0
		}
		return "Clear", fmt.Sprint(d.Clear()), fmt.Sprint(api.OK)
	case 3:
		f := api.Fault{Op: m.ops + int64(r.IntN(20)), Kind: r.IntN(10), N: int64(r.IntN(100) - 30)}
		want := api.OK
		if f.Op < 1 || f.Kind < 1 {
			want = api.ErrPlan
		} else {
			m.plan = append(m.plan, f)
		}
		return fmt.Sprint("Plan ", f), fmt.Sprint(d.Plan(f)), fmt.Sprint(want)
	}
	m.down = false
	return "Mend", fmt.Sprint(d.Mend()), fmt.Sprint(api.OK)
}

func TestAsTheModel(t *testing.T) {
	r := dice()
	for range 400 {
		var plan []api.Fault
		for range r.IntN(30) {
			kind := 1 + r.IntN(7)
			if r.IntN(9) == 0 {
				kind = 8 + r.IntN(2)
			}
			plan = append(plan, api.Fault{Op: 1 + r.Int64N(150), Kind: kind, N: r.Int64N(200) - 50})
		}
		quota := int64(20 + r.IntN(100))
		m := &model{quota: quota, plan: slices.Clone(plan), states: []map[string]int{{}}}
		d := fresh(t, quota, plan...)
		var calls []string
		for range 200 {
			if r.IntN(20) == 0 {
				old := d
				d = d.Copy()
				old.Clear()
				old.Restart(0)
				old.Create("other")
			}
			call, got, want := step(r, d, m)
			calls = append(calls, call)
			used, files := d.Used()
			got += fmt.Sprint(d.Stats(), used, files, d.Ops(), d.Lit())
			want += fmt.Sprint(m.stats(), m.used(), len(m.dir()), m.ops, !m.off && !m.down)
			if got != want {
				t.Fatalf("behind %v\n%s\nnot\n%s", calls[max(0, len(calls)-12):], got, want)
			}
		}
	}
}

// kept is what P3.16 says of a name: what stood in its file at a Sync that was answered OK, once both are durable; and what may stand there at most.
type kept struct {
	data   string // what the file's Appends have written
	atSync string
	synced bool
	named  bool // the name is durable
}

// Whatever strikes: what was synced under a durable name is there behind every Restart, and nothing stands in a file that was not written.
func TestWhatIsSyncedIsKept(t *testing.T) {
	r := dice()
	for range 300 {
		var plan []api.Fault
		for range r.IntN(40) {
			kinds := []int{1, 2, 4, 5, 6, 8, 9} // all but what turns bits
			plan = append(plan, api.Fault{Op: 1 + r.Int64N(200), Kind: kinds[r.IntN(len(kinds))], N: r.Int64N(12)})
		}
		d := fresh(t, 1000, plan...)
		files := map[string]*kept{}
		for range 250 {
			keptStep(t, r, d, files)
		}
	}
}

// keptStep makes a call and notes what follows of it. A name that was removed, renamed or renamed over is let go: nothing is promised of it till it is created anew.
func keptStep(t *testing.T, r *rand.Rand, d *platter.Disk, files map[string]*kept) {
	name := string(rune('a' + r.IntN(5)))
	f := files[name]
	switch r.IntN(12) {
	case 0, 1:
		if d.Create(name) == api.OK {
			files[name] = &kept{}
		}
	case 2, 3, 4, 5:
		data := strings.Repeat(string(rune('A'+r.IntN(26))), r.IntN(9))
		before := sizeOf(d, name)
		d.Append(name, []byte(data))
		if f != nil {
			f.data += data[:sizeOf(d, name)-before]
		}
	case 6, 7:
		if d.Sync(name) == api.OK && f != nil {
			f.atSync, f.synced = f.data, true
		}
	case 8:
		if d.SyncDir() == api.OK {
			for _, f := range files {
				f.named = true
			}
		}
	case 9:
		to := string(rune('a' + r.IntN(5)))
		if d.Rename(name, to) == api.OK && to != name {
			delete(files, name)
			delete(files, to)
		}
	case 10:
		if d.Remove(name) == api.OK {
			delete(files, name)
		}
	case 11:
		d.Restart(r.IntN(6), int64(r.IntN(9)), int64(r.IntN(9)), int64(r.IntN(9)))
		d.Mend()
		keptCheck(t, d, files)
	}
}

// sizeOf tells a file's size without an operation.
func sizeOf(d *platter.Disk, name string) int64 {
	for _, s := range d.Stats() {
		if s.Name == name {
			return s.Size
		}
	}
	return 0
}

func keptCheck(t *testing.T, d *platter.Disk, files map[string]*kept) {
	t.Helper()
	there := map[string]string{}
	look := d.Copy() // so that the plan's numbers stay
	for _, s := range d.Stats() {
		b := make([]byte, s.Size)
		for n := -1; n != len(b); {
			look.Restart(0)
			look.Mend()
			n, _ = look.ReadAt(s.Name, 0, b)
		}
		there[s.Name] = string(b)
	}
	for name, f := range files {
		data, ok := there[name]
		if f.synced && f.named && (!ok || !strings.HasPrefix(data, f.atSync)) {
			t.Fatalf("%s: %q (there: %v), though %q was synced", name, data, ok, f.atSync)
		}
		if ok && f.named && !strings.HasPrefix(f.data, data) {
			t.Fatalf("%s: %q, of which only %q was written", name, data, f.data)
		}
	}
	clear(files)
	for name, data := range there {
		files[name] = &kept{data: data, atSync: data, synced: true, named: true}
	}
}
