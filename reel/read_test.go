package reel_test

import (
	"bytes"
	"encoding/binary"
	"fmt"
	"hash/crc32"
	"testing"

	"sluice/api"
	"sluice/platter"
	"sluice/reel"
)

// readAll tells how many updates of the examples' kind a Reader tells, and looks at each.
func readAll(t *testing.T, r *reel.Reader[api.Update]) int {
	t.Helper()
	n := 0
	for i, u := range r.All() {
		if i != int64(n) || u != update(n) {
			t.Errorf("record %d as number %d: %v", n, i, u)
		}
		n++
	}
	return n
}

func open(t *testing.T, v api.Volume, room int) *reel.Reader[api.Update] {
	t.Helper()
	r, err := reel.Open(v, "f", updates, reel.UpdateForm(), make([]byte, room))
	if r == nil || err != api.OK {
		t.Fatalf("Open: %v", err)
	}
	return r
}

func TestReadTheExample(t *testing.T) {
	d := disk(t)
	three(t, d)
	v := &tape{Volume: d}
	r := open(t, v, 40)
	if got, want := v.told(), "[Size f ReadAt f 0 24 ReadAt f 24 12]"; got != want {
		t.Errorf("Open calls %s, not %s", got, want)
	}
	if r.Code() != api.OK || r.Done() || r.Count() != 0 || r.Sum() != 0 {
		t.Error("behind Open")
	}
	if n := readAll(t, r); n != 3 || !r.Done() || r.Code() != api.OK || r.Count() != 3 || r.Sum() != crc32.ChecksumIEEE(updateBytes(0, 3)) {
		t.Errorf("%d records, %v", n, r.Code())
	}
	if got, want := v.told(), "[ReadAt f 36 24 ReadAt f 60 40 ReadAt f 100 24 ReadAt f 124 20 ReadAt f 144 24 ReadAt f 168 12]"; got != want {
		t.Errorf("Next calls %s, not %s", got, want)
	}
	if s := d.Stats(); s[0].Seeks != 0 || s[0].ReadBytes != 180 {
		t.Errorf("Stats: %+v", s[0])
	}
	r = open(t, v, 39)
	if n := readAll(t, r); n != 0 || r.Code() != api.ErrRoom || r.Done() || r.Sum() != 0 {
		t.Errorf("39 bytes: %d records, %v", n, r.Code())
	}
	other := updates
	other.Tag = 8
	if r, err := reel.Open(d, "f", other, reel.UpdateForm(), make([]byte, 40)); r != nil || err != api.ErrTitle {
		t.Errorf("another title: %v", err)
	}
}

// A chunk is read when a record of it is asked for, not earlier.
func TestWhenChunksAreRead(t *testing.T) {
	d := disk(t)
	three(t, d)
	v := &tape{Volume: d}
	r := open(t, v, 40)
	v.told()
	steps := []string{"[ReadAt f 36 24 ReadAt f 60 40]", "[]", "[ReadAt f 100 24 ReadAt f 124 20]", "[ReadAt f 144 24 ReadAt f 168 12]", "[]", "[]"}
	sums := []int{2, 2, 3, 3, 3, 3}
	for i, want := range steps {
		u, ok := r.Next()
		if ok != (i < 3) || ok && u != update(i) || !ok && u != (api.Update{}) {
			t.Errorf("Next %d: %v %v", i, u, ok)
		}
		if got := v.told(); got != want {
			t.Errorf("Next %d calls %s, not %s", i, got, want)
		}
		if r.Count() != int64(min(i+1, 3)) || r.Sum() != crc32.ChecksumIEEE(updateBytes(0, sums[i])) || r.Done() != (i >= 3) {
			t.Errorf("behind Next %d: Count %d, Sum %x, Done %v", i, r.Count(), r.Sum(), r.Done())
		}
	}
}

func TestOpenRefuses(t *testing.T) {
	f := reel.UpdateForm()
	bad := reel.FormOf[api.Update](20, nil, nil)
	off := disk(t, api.Fault{Op: 1, Kind: api.FaultOff})
	rows := []struct {
		what string
		v    api.Volume
		name string
		t    api.Title
		f    reel.Form[api.Update]
		room int
		want api.Errno
		ops  int
	}{
		{"all is wrong", nil, "", api.Title{}, bad, 0, api.ErrNil, 0},
		{"no form, and all behind it", off, "", api.Title{}, bad, 0, api.ErrArg, 0},
		{"no title, and all behind it", off, "", api.Title{}, f, 0, api.ErrTitle, 0},
		{"family 256", off, "", api.Title{Family: 256, Width: 20}, f, 64, api.ErrTitle, 0},
		{"another width", off, "", api.Title{Family: 1, Width: 19}, f, 64, api.ErrTitle, 0},
		{"35 bytes", off, "", updates, f, 35, api.ErrRoom, 0},
		{"no name", disk(t), "", updates, f, 36, api.ErrVolName, 1},
		{"no file", disk(t), "f", updates, f, 36, api.ErrNoFile, 1},
		{"no power", off, "f", updates, f, 36, api.ErrOff, 1},
		{"a disk that is not there", nilDisk(), "f", updates, f, 36, api.ErrNil, 0},
	}
	for _, r := range rows {
		got, err := reel.Open(r.v, r.name, r.t, r.f, make([]byte, r.room))
		if got != nil || err != r.want {
			t.Errorf("%s: %v, not %v", r.what, err, r.want)
		}
		if d, ok := r.v.(*platter.Disk); ok && d.Ops() != int64(r.ops) {
			t.Errorf("%s: %d operations", r.what, d.Ops())
		}
	}
	wide := api.Title{Family: 1, Width: 100}
	d := lie(t, "f", file(wide))
	if _, err := reel.Open(d, "f", wide, reel.TextForm(100), make([]byte, 99)); err != api.ErrRoom {
		t.Errorf("99 bytes: %v", err)
	}
	if r, err := reel.Open(d, "f", wide, reel.TextForm(100), make([]byte, 100)); r == nil || err != api.OK {
		t.Errorf("100 bytes: %v", err)
	}
}

func TestAReaderThatIsNotThere(t *testing.T) {
	var none *reel.Reader[string]
	for i, r := range []*reel.Reader[string]{none, {}} {
		x, ok := r.Next()
		if ok || x != "" || r.Code() != api.ErrNil || r.Done() || r.Count() != 0 || r.Sum() != 0 {
			t.Errorf("Reader %d", i)
		}
		for range r.All() {
			t.Errorf("Reader %d tells something", i)
		}
	}
}

// The faults of each kind of chunk, one by one; all sums are right but where they are the fault.
func TestFaultsOfChunks(t *testing.T) {
	title := chunk(1, 0, 0, titleBody(3, 20, 7))
	body := updateBytes(0, 2)
	data := chunk(2, 1, 2, body)
	end := func(number uint32, n int) []byte {
		return chunk(3, number, 0, endBody(uint64(n), crc32.ChecksumIEEE(updateBytes(0, n))))
	}
	join := func(parts ...[]byte) []byte { return bytes.Join(parts, nil) }
	turn := func(b []byte, at int) []byte {
		b = bytes.Clone(b)
		b[at] ^= 0x10
		return b
	}
	lettered := func(letters string) []byte { // the head's sum is right
		b := append([]byte(letters), title[2:]...)
		binary.LittleEndian.PutUint32(b[20:], crc32.ChecksumIEEE(b[:20]))
		return b
	}
	rows := []struct {
		what string
		b    []byte
		want api.Errno
		told int // -1: Open refuses
	}{
		{"a whole file", join(title, data, end(2, 2)), api.OK, 2},
		{"an empty file", nil, api.ErrTorn, -1},
		{"ten bytes", make([]byte, 10), api.ErrTorn, -1},
		{"a head's bytes, all 0", make([]byte, 24), api.ErrChunk, -1},
		{"another letter", turn(title, 0), api.ErrChunk, -1},
		{"another second letter", turn(title, 1), api.ErrChunk, -1},
		{"letters turned round", lettered("LR"), api.ErrChunk, -1},
		{"a small first letter", lettered("rL"), api.ErrChunk, -1},
		{"a small second letter", lettered("Rl"), api.ErrChunk, -1},
		{"another layout", chunkOf(1, 2, 0, 0, 12, titleBody(3, 20, 7)), api.ErrChunk, -1},
		{"a head's sum", turn(title, 20), api.ErrChunk, -1},
		{"a head's field", turn(title, 5), api.ErrChunk, -1},
		{"a title's body missing", title[:24], api.ErrTorn, -1},
		{"a title's body cut", title[:35], api.ErrTorn, -1},
		{"a title's body turned", turn(title, 30), api.ErrBody, -1},
		{"data first", data, api.ErrOrder, -1},
		{"data numbered 0 first", chunk(2, 0, 2, body), api.ErrOrder, -1},
		{"an end first", chunk(3, 0, 0, endBody(0, 0)), api.ErrOrder, -1},
		{"kind 0", chunk(0, 0, 0, titleBody(3, 20, 7)), api.ErrOrder, -1},
		{"kind 4", chunk(4, 0, 0, titleBody(3, 20, 7)), api.ErrOrder, -1},
		{"a title numbered 1", chunk(1, 1, 0, titleBody(3, 20, 7)), api.ErrOrder, -1},
		{"a title with records", chunk(1, 0, 1, titleBody(3, 20, 7)), api.ErrOrder, -1},
		{"a title of 11 bytes", chunk(1, 0, 0, titleBody(3, 20, 7)[:11]), api.ErrOrder, -1},
		{"a title of 13 bytes", chunk(1, 0, 0, append(titleBody(3, 20, 7), 0)), api.ErrOrder, -1},
		{"a title of no family", chunk(1, 0, 0, titleBody(0, 20, 7)), api.ErrTitle, -1},
		{"a title of family 256", chunk(1, 0, 0, titleBody(256, 20, 7)), api.ErrTitle, -1},
		{"a title of no width", chunk(1, 0, 0, titleBody(3, 0, 7)), api.ErrTitle, -1},
		{"a title of width 257", chunk(1, 0, 0, titleBody(3, 257, 7)), api.ErrTitle, -1},
		{"a title alone", title, api.ErrTorn, 0},
		{"a title twice", join(title, title), api.ErrOrder, 0},
		{"a title as the second chunk", join(title, chunk(1, 1, 0, titleBody(3, 20, 7))), api.ErrOrder, 0},
		{"data without records", join(title, chunk(2, 1, 0, nil)), api.ErrOrder, 0},
		{"data numbered 0", join(title, chunk(2, 0, 2, body)), api.ErrOrder, 0},
		{"data numbered 2", join(title, chunk(2, 2, 2, body)), api.ErrOrder, 0},
		{"data twice", join(title, data, data), api.ErrOrder, 2},
		{"more records than bytes", join(title, chunk(2, 1, 3, body)), api.ErrOrder, 0},
		{"fewer records than bytes", join(title, chunk(2, 1, 1, body)), api.ErrOrder, 0},
		{"a byte more than the records", join(title, chunk(2, 1, 2, append(bytes.Clone(body), 0))), api.ErrOrder, 0},
		{"records whose bytes wrap round", join(title, chunkOf(2, 1, 1, 1<<30+2, 40, body)), api.ErrOrder, 0},
		{"kind 3 with data", join(title, chunk(3, 1, 2, body)), api.ErrOrder, 0},
		{"a body too long for the buffer, and cut", join(title, chunk(2, 1, 4, updateBytes(0, 4))[:30]), api.ErrRoom, 0},
		{"a chunk longer than may be", join(title, chunkOf(2, 1, 1, 52429, 52429*20, nil)), api.ErrOrder, 0},
		{"the longest chunk there may be", join(title, chunkOf(2, 1, 1, 52428, 52428*20, nil)), api.ErrRoom, 0},
		{"a body cut", join(title, data[:63]), api.ErrTorn, 0},
		{"a body turned", join(title, turn(data, 63)), api.ErrBody, 0},
		{"no end", join(title, data), api.ErrTorn, 2},
		{"a head's beginning", join(title, data, end(2, 2)[:23]), api.ErrTorn, 2},
		{"an end's body cut", join(title, data, end(2, 2)[:35]), api.ErrTorn, 2},
		{"an end's body turned", join(title, data, turn(end(2, 2), 35)), api.ErrBody, 2},
		{"an end numbered 1", join(title, data, end(1, 2)), api.ErrOrder, 2},
		{"an end numbered 3", join(title, data, end(3, 2)), api.ErrOrder, 2},
		{"an end with records", join(title, data, chunk(3, 2, 2, endBody(2, crc32.ChecksumIEEE(body)))), api.ErrOrder, 2},
		{"an end of 16 bytes", join(title, data, chunk(3, 2, 0, make([]byte, 16))), api.ErrOrder, 2},
		{"other records in all", join(title, data, chunk(3, 2, 0, endBody(3, crc32.ChecksumIEEE(body)))), api.ErrTotal, 2},
		{"as many, and 2^63 more", join(title, data, chunk(3, 2, 0, endBody(1<<63+2, crc32.ChecksumIEEE(body)))), api.ErrTotal, 2},
		{"as many, and 2^32 more", join(title, data, chunk(3, 2, 0, endBody(1<<32+2, crc32.ChecksumIEEE(body)))), api.ErrTotal, 2},
		{"another sum in all", join(title, data, chunk(3, 2, 0, endBody(2, 1))), api.ErrTotal, 2},
		{"another sum, and bytes behind", join(title, data, chunk(3, 2, 0, endBody(2, 1)), []byte{0}), api.ErrTotal, 2},
		{"a byte behind", join(title, data, end(2, 2), []byte{0}), api.ErrBehind, 2},
		{"a file behind", join(title, data, end(2, 2), title, end(1, 0)), api.ErrBehind, 2},
		{"an end twice", join(title, data, end(2, 2), end(3, 2)), api.ErrBehind, 2},
	}
	for _, r := range rows {
		d := lie(t, "f", r.b)
		got, err := reel.Open(d, "f", updates, reel.UpdateForm(), make([]byte, 40))
		if r.told < 0 {
			if got != nil || err != r.want {
				t.Errorf("%s: Open: %v, not %v", r.what, err, r.want)
			}
		} else if err != api.OK {
			t.Errorf("%s: Open: %v", r.what, err)
		} else if n := readAll(t, got); n != r.told || got.Code() != r.want || got.Done() != (r.want == api.OK) {
			t.Errorf("%s: %d records, %v, not %d, %v", r.what, n, got.Code(), r.told, r.want)
		}
		title, records, sum, err := reel.Scan(d, "f", make([]byte, 40))
		want := updates
		if r.told < 0 {
			want = api.Title{}
		}
		if title != want || records != int64(max(0, r.told)) || sum != crc32.ChecksumIEEE(updateBytes(0, max(0, r.told))) || err != r.want {
			t.Errorf("%s: Scan: %v %d %v", r.what, title, records, err)
		}
		held(t, r.what, r.b, updates, 40)
	}
}

func TestAnotherTitle(t *testing.T) {
	d := disk(t)
	three(t, d)
	for _, title := range []api.Title{{Family: 4, Width: 20, Tag: 7}, {Family: 3, Width: 20, Tag: 7 | 1<<63}, {Family: 3, Width: 20}} {
		if r, err := reel.Open(d, "f", title, reel.UpdateForm(), make([]byte, 64)); r != nil || err != api.ErrTitle {
			t.Errorf("%v: %v", title, err)
		}
	}
	title := api.Title{Family: 3, Width: 19, Tag: 7}
	if r, err := reel.Open(d, "f", title, reel.TextForm(19), make([]byte, 64)); r != nil || err != api.ErrTitle {
		t.Errorf("%v: %v", title, err)
	}
}

func TestIterators(t *testing.T) {
	var bodies [][]byte
	for i := range 5 {
		bodies = append(bodies, updateBytes(4*i, 4*i+4))
	}
	d := lie(t, "f", file(updates, bodies...))
	r := open(t, d, 80)
	all := r.All()
	if r.Count() != 0 {
		t.Error("All tells by itself")
	}
	next := 0
	see := func(i int64, u api.Update) {
		t.Helper()
		if i != int64(next) || u != update(next) {
			t.Errorf("record %d: number %d, %v", next, i, u)
		}
		next++
		if r.Count() != int64(next) {
			t.Errorf("Count %d amid the loop, not %d", r.Count(), next)
		}
	}
	for i, u := range all {
		see(i, u)
		if next == 3 {
			break
		}
	}
	u, _ := r.Next()
	see(3, u)
	for i, u := range all { // the same one again
		see(i, u)
		for i, u := range r.All() { // nested
			see(i, u)
			if next%3 == 0 {
				break
			}
		}
		u, ok := r.Next()
		if ok {
			see(int64(next), u)
		}
		if next > 12 {
			break
		}
	}
	for i, u := range r.All() {
		see(i, u)
	}
	if next != 20 || !r.Done() {
		t.Errorf("%d records, %v", next, r.Code())
	}
	for range all {
		t.Error("more than all")
	}
}

// Leaving a loop behind the last record does not read the end.
func TestLeftBehindTheLast(t *testing.T) {
	d := disk(t)
	three(t, d)
	r := open(t, d, 64)
	for i := range r.All() {
		if i == 2 {
			break
		}
	}
	if r.Done() || r.Code() != api.OK || r.Count() != 3 {
		t.Error("the end was read early")
	}
	for range r.All() {
		t.Error("a fourth record")
	}
	if !r.Done() {
		t.Error("not done")
	}
}

// Behind the last record of a chunk the buffer is left to others.
func TestReadersShareABuffer(t *testing.T) {
	d := lie(t, "f", file(updates, updateBytes(0, 2), updateBytes(2, 3), updateBytes(3, 6)))
	whole := make([]byte, 80)
	for i := range whole {
		whole[i] = 0xaa
	}
	buf := whole[:60]
	var rs [3]*reel.Reader[api.Update]
	for i := range rs {
		r, err := reel.Open(d, "f", updates, reel.UpdateForm(), buf)
		if err != api.OK {
			t.Fatalf("Open: %v", err)
		}
		rs[i] = r
	}
	from := 0
	for _, n := range []int{2, 1, 3} {
		for _, r := range rs {
			for i := range n {
				if u, ok := r.Next(); !ok || u != update(from+i) {
					t.Errorf("record %d: %v %v", from+i, u, ok)
				}
			}
			for i := range buf {
				buf[i] = byte(3 * i)
			}
		}
		from += n
	}
	for _, r := range rs {
		if _, ok := r.Next(); ok || !r.Done() {
			t.Errorf("not done: %v", r.Code())
		}
	}
	for i, b := range whole[60:] {
		if b != 0xaa {
			t.Errorf("byte %d behind the buffer is changed", i)
		}
	}
}

// Every operation of a Reader is struck by every fault.
func TestFaultsOfReading(t *testing.T) {
	whole := disk(t)
	three(t, whole)
	// Size, head and body of the title, of two data chunks, of the end.
	told := []int{0, 0, 0, 0, 0, 2, 2, 3, 3}
	kinds := []struct {
		kind int
		n    int64
		want api.Errno
	}{{api.FaultRead, 0, api.ErrIO}, {api.FaultShort, 0, api.ErrIO}, {api.FaultShort, -5, api.ErrIO}, {api.FaultOff, 0, api.ErrOff}, {api.FaultDown, 0, api.ErrIO}}
	for _, k := range kinds {
		for op := range told {
			if op == 0 && (k.kind == api.FaultRead || k.kind == api.FaultShort) {
				continue
			}
			d := whole.Copy()
			at := d.Ops() + int64(op) + 1
			d.Plan(api.Fault{Op: at, Kind: k.kind, N: k.n})
			title, records, sum, err := reel.Scan(d.Copy(), "f", make([]byte, 64))
			want := updates
			if op < 3 {
				want = api.Title{}
			}
			if err != k.want || records != int64(told[op]) || sum != crc32.ChecksumIEEE(updateBytes(0, told[op])) || title != want {
				t.Errorf("kind %d at %d: Scan: %v %d %v", k.kind, op, title, records, err)
			}
			r, err := reel.Open(d, "f", updates, reel.UpdateForm(), make([]byte, 64))
			if op < 3 {
				if r != nil || err != k.want || d.Ops() != at {
					t.Errorf("kind %d at %d: Open: %v", k.kind, op, err)
				}
				continue
			}
			if n := readAll(t, r); n != told[op] || r.Code() != k.want || r.Done() || d.Ops() != at {
				t.Errorf("kind %d at %d: %d records, %v", k.kind, op, n, r.Code())
			}
			if _, ok := r.Next(); ok || d.Ops() != at || r.Count() != int64(told[op]) || r.Code() != k.want {
				t.Errorf("kind %d at %d: it goes on", k.kind, op)
			}
		}
	}
}

// crumbs is a volume that reads so many bytes at most.
type crumbs struct {
	api.Volume
	most int
}

func (c crumbs) ReadAt(name string, at int64, into []byte) (int, api.Errno) {
	return c.Volume.ReadAt(name, at, into[:min(c.most, len(into))])
}

func TestShortReads(t *testing.T) {
	d := disk(t)
	three(t, d)
	for most := 1; most < 45; most++ {
		r := open(t, crumbs{d, most}, 40)
		if n := readAll(t, r); n != 3 || !r.Done() || r.Code() != api.OK {
			t.Errorf("%d bytes at once: %d records, %v", most, n, r.Code())
		}
		if _, n, sum, err := reel.Scan(crumbs{d, most}, "f", make([]byte, 40)); n != 3 || sum != crc32.ChecksumIEEE(updateBytes(0, 3)) || err != api.OK {
			t.Errorf("%d bytes at once: Scan: %d %v", most, n, err)
		}
	}
	v := &tape{Volume: crumbs{d, 9}}
	open(t, v, 40)
	if got, want := v.told(), "[Size f ReadAt f 0 24 ReadAt f 9 15 ReadAt f 18 6 ReadAt f 24 12 ReadAt f 33 3]"; got != want {
		t.Errorf("short reads: %s, not %s", got, want)
	}
}

// liars is a volume that does not keep chapter 3's words: nothing is promised, but calls end and don't panic.
type liars struct {
	api.Volume
	size int64
	n    int
}

func (l liars) Size(name string) (int64, api.Errno) { return l.size, api.OK }
func (l liars) ReadAt(name string, at int64, into []byte) (int, api.Errno) {
	return l.n, api.OK
}

func TestVolumesThatLie(t *testing.T) {
	for _, size := range []int64{-1 << 63, -1, 0, 10, 1 << 62} {
		for _, n := range []int{-1 << 63, -1, 0, 25, 1 << 62} {
			v := liars{size: size, n: n}
			if r, err := reel.Open(v, "f", updates, reel.UpdateForm(), make([]byte, 64)); r != nil || err == api.OK {
				t.Errorf("size %d, %d read: Open: %v", size, n, err)
			}
			if _, _, _, err := reel.Scan(v, "f", make([]byte, 64)); err == api.OK {
				t.Errorf("size %d, %d read: Scan", size, n)
			}
			if _, err := reel.Fetch(v, "f", make([]byte, 20)); err == api.OK && size != 0 {
				t.Errorf("size %d, %d read: Fetch", size, n)
			}
		}
	}
}

func TestScanRefuses(t *testing.T) {
	d := disk(t)
	three(t, d)
	ops := d.Ops()
	rows := []struct {
		v    api.Volume
		name string
		room int
		want api.Errno
		ops  int64
	}{{nil, "f", 0, api.ErrNil, 0}, {d, "f", 0, api.ErrRoom, 0}, {d, "f", 35, api.ErrRoom, 0}, {d, "g", 36, api.ErrNoFile, 1}, {d, "G", 36, api.ErrVolName, 1}, {nilDisk(), "f", 36, api.ErrNil, 0}}
	for _, r := range rows {
		title, n, sum, err := reel.Scan(r.v, r.name, make([]byte, r.room))
		if title != (api.Title{}) || n != 0 || sum != 0 || err != r.want || d.Ops() != ops+r.ops {
			t.Errorf("%q with %d bytes: %v %d %x %v", r.name, r.room, title, n, sum, err)
		}
		ops = d.Ops()
	}
}

func TestScan(t *testing.T) {
	d := disk(t)
	three(t, d)
	sum3 := crc32.ChecksumIEEE(updateBytes(0, 3))
	for _, room := range []int{40, 41, 64, 1000} {
		if title, n, sum, err := reel.Scan(d, "f", make([]byte, room)); title != updates || n != 3 || sum != sum3 || err != api.OK {
			t.Errorf("%d bytes: %v %d %x %v", room, title, n, sum, err)
		}
	}
	if title, n, sum, err := reel.Scan(d, "f", make([]byte, 39)); title != updates || n != 0 || sum != 0 || err != api.ErrRoom {
		t.Errorf("39 bytes: %v %d %x %v", title, n, sum, err)
	}
	// A record may be wider than the buffer, if there is none.
	wide := api.Title{Family: 255, Width: 256, Tag: 1<<64 - 1}
	if title, n, _, err := reel.Scan(lie(t, "f", file(wide)), "f", make([]byte, 36)); title != wide || n != 0 || err != api.OK {
		t.Errorf("no records: %v %d %v", title, n, err)
	}
	d.Flip("f", 8*(36+64+24))
	if title, n, sum, err := reel.Scan(d, "f", make([]byte, 64)); title != updates || n != 2 || sum != crc32.ChecksumIEEE(updateBytes(0, 2)) || err != api.ErrBody {
		t.Errorf("a bit turned: %v %d %x %v", title, n, sum, err)
	}
}

func TestTheThirdAndFourthExample(t *testing.T) {
	d := disk(t)
	three(t, d)
	whole := contents(t, d, "f")
	turned := bytes.Clone(whole)
	turned[36+64+24] ^= 0xff
	rows := []struct {
		what string
		b    []byte
		n    int
		want api.Errno
	}{
		{"a byte turned", turned, 2, api.ErrBody},
		{"the end cut off", whole[:144], 3, api.ErrTorn},
		{"a byte more", append(bytes.Clone(whole), 'x'), 3, api.ErrBehind},
	}
	for _, row := range rows {
		r := open(t, lie(t, "f", row.b), 64)
		if n := readAll(t, r); n != row.n || r.Code() != row.want || r.Done() {
			t.Errorf("%s: %d records, %v", row.what, n, r.Code())
		}
	}
	if _, err := reel.Open(lie(t, "f", whole[:10]), "f", updates, reel.UpdateForm(), make([]byte, 64)); err != api.ErrTorn {
		t.Errorf("ten bytes: %v", err)
	}
}

// The file grows behind Open: its size is the one that was asked for at first.
func TestTheSizeIsAskedOnce(t *testing.T) {
	d := disk(t)
	three(t, d)
	r := open(t, d, 64)
	d.Append("f", []byte("more"))
	if n := readAll(t, r); n != 3 || !r.Done() {
		t.Errorf("%d records, %v", n, r.Code())
	}
	cut := lie(t, "f", contents(t, d, "f")[:100])
	r = open(t, cut, 64)
	cut.Append("f", contents(t, d, "f")[100:180])
	if n := readAll(t, r); n != 2 || r.Code() != api.ErrTorn {
		t.Errorf("%d records, %v", n, r.Code())
	}
}

func ExampleReader_All() {
	d, _ := platter.New(1000)
	title := api.Title{Family: api.FamResult, Width: 5}
	w, _ := reel.Create(d, "f", title, reel.TextForm(5), make([]byte, 36))
	w.Put("scatter", "shuffle", "gather")
	w.Close()
	r, _ := reel.Open(d, "f", title, reel.TextForm(5), make([]byte, 36))
	for i, s := range r.All() {
		fmt.Println(i, s)
	}
	fmt.Println(r.Done())
	// Output:
	// 0 scatt
	// 1 shuff
	// 2 gathe
	// true
}
