package reel_test

import (
	"bytes"
	"fmt"
	"hash/crc32"
	"strings"
	"testing"

	"sluice/api"
	"sluice/platter"
	"sluice/reel"
)

var updates = api.Title{Family: api.FamUpdates, Width: 20, Tag: 7}

func update(i int) api.Update { return api.Update{To: uint32(i), A: 1<<40 + uint64(i), B: 5} }

// updateBytes is the body that some updates make.
func updateBytes(from, to int) []byte {
	var b []byte
	for i := from; i < to; i++ {
		one := make([]byte, 20)
		reel.UpdateForm().Lay(one, update(i))
		b = append(b, one...)
	}
	return b
}

// three writes the file of the chapter's first example.
func three(t testing.TB, v api.Volume) {
	t.Helper()
	w, err := reel.Create(v, "f", updates, reel.UpdateForm(), make([]byte, 64))
	if err != api.OK {
		t.Fatalf("Create: %v", err)
	}
	for i := range 3 {
		if err := w.Put(update(i)); err != api.OK {
			t.Fatalf("Put: %v", err)
		}
	}
	if err := w.Close(); err != api.OK {
		t.Fatalf("Close: %v", err)
	}
}

func TestTheFileOfTheExample(t *testing.T) {
	d := disk(t)
	v := &tape{Volume: d}
	three(t, v)
	if got, want := v.told(), "[Create f Append f 36 Append f 64 Append f 44 Append f 36 Sync f]"; got != want {
		t.Errorf("calls %s, not %s", got, want)
	}
	want := file(updates, updateBytes(0, 2), updateBytes(2, 3))
	if got := contents(t, d, "f"); len(got) != 180 || !bytes.Equal(got, want) {
		t.Errorf("the file is\n%x, not\n%x", got, want)
	}
	if s := d.Stats(); s[0].Writes != 4 || s[0].Synced != 180 {
		t.Errorf("Stats: %+v", s)
	}
}

// The bytes of one file, written out: nothing of the test's own reckons them.
func TestTheBytesOfAFile(t *testing.T) {
	d := disk(t)
	w, _ := reel.Create(d, "f", api.Title{Family: 255, Width: 1, Tag: 0x0102030405060708}, reel.FormOf(1, putByte, getByte), make([]byte, 36))
	if w.Put('1', '2', '3', '4', '5', '6', '7', '8', '9') != api.OK || w.Close() != api.OK {
		t.Fatal("not written")
	}
	b := contents(t, d, "f")
	parts := []struct {
		at   int
		what string
	}{
		{0, "RL\x01\x01\x00\x00\x00\x00\x00\x00\x00\x00\x0c\x00\x00\x00"},
		{24, "\xff\x00\x01\x00\x08\x07\x06\x05\x04\x03\x02\x01"},
		{36, "RL\x02\x01\x01\x00\x00\x00\x09\x00\x00\x00\x09\x00\x00\x00\x26\x39\xf4\xcb"},
		{60, "123456789"},
		{69, "RL\x03\x01\x02\x00\x00\x00\x00\x00\x00\x00\x0c\x00\x00\x00"},
		{93, "\x09\x00\x00\x00\x00\x00\x00\x00\x26\x39\xf4\xcb"},
	}
	for _, p := range parts {
		if got := string(b[p.at : p.at+len(p.what)]); got != p.what {
			t.Errorf("at %d stands %q, not %q", p.at, got, p.what)
		}
	}
	if len(b) != 105 {
		t.Errorf("%d bytes", len(b))
	}
}

func TestCreateRefuses(t *testing.T) {
	f := reel.UpdateForm()
	bad := reel.Form[api.Update]{}
	off := disk(t, api.Fault{Op: 1, Kind: api.FaultOff})
	rows := []struct {
		what string
		v    api.Volume
		name string
		t    api.Title
		f    reel.Form[api.Update]
		room int
		want api.Errno
		ops  int
	}{
		{"all is wrong", nil, "", api.Title{}, bad, 0, api.ErrNil, 0},
		{"no volume", nil, "f", updates, f, 64, api.ErrNil, 0},
		{"no form, and all behind it", off, "", api.Title{}, bad, 0, api.ErrArg, 0},
		{"no title, and all behind it", off, "", api.Title{}, f, 0, api.ErrTitle, 0},
		{"family 0", off, "", api.Title{Family: 0, Width: 20}, f, 64, api.ErrTitle, 0},
		{"family -1", off, "", api.Title{Family: -1, Width: 20}, f, 64, api.ErrTitle, 0},
		{"family 256", off, "", api.Title{Family: 256, Width: 20}, f, 64, api.ErrTitle, 0},
		{"family 65537", off, "", api.Title{Family: 65537, Width: 20}, f, 64, api.ErrTitle, 0},
		{"width 0", off, "", api.Title{Family: 1}, f, 64, api.ErrTitle, 0},
		{"width 257", off, "", api.Title{Family: 1, Width: 257}, f, 64, api.ErrTitle, 0},
		{"another width", off, "", api.Title{Family: 1, Width: 21}, f, 64, api.ErrTitle, 0},
		{"no buffer", off, "", updates, f, 0, api.ErrRoom, 0},
		{"43 bytes", off, "", updates, f, 43, api.ErrRoom, 0},
		{"no name", disk(t), "", updates, f, 44, api.ErrVolName, 1},
		{"no power", off, "f", updates, f, 44, api.ErrOff, 1},
		{"a disk that is not there", nilDisk(), "f", updates, f, 44, api.ErrNil, 0},
	}
	for _, r := range rows {
		w, err := reel.Create(r.v, r.name, r.t, r.f, make([]byte, r.room))
		if w != nil || err != r.want {
			t.Errorf("%s: %v, not %v", r.what, err, r.want)
		}
		if d, ok := r.v.(*platter.Disk); ok && d.Ops() != int64(r.ops) {
			t.Errorf("%s: %d operations", r.what, d.Ops())
		}
	}
	d := disk(t)
	three(t, d)
	if w, err := reel.Create(d, "f", updates, f, make([]byte, 64)); w != nil || err != api.ErrTaken {
		t.Errorf("a name that is taken: %v", err)
	}
	one := reel.FormOf(1, putByte, getByte)
	if _, err := reel.Create(d, "g", api.Title{Family: 1, Width: 1}, one, make([]byte, 35)); err != api.ErrRoom {
		t.Errorf("35 bytes: %v", err)
	}
	if w, err := reel.Create(d, "g", api.Title{Family: 1, Width: 1}, one, make([]byte, 36)); w == nil || err != api.OK {
		t.Errorf("36 bytes: %v", err)
	}
	wide := reel.TextForm(256)
	if _, err := reel.Create(d, "h", api.Title{Family: 255, Width: 256}, wide, make([]byte, 279)); err != api.ErrRoom {
		t.Errorf("279 bytes: %v", err)
	}
	if w, err := reel.Create(d, "h", api.Title{Family: 255, Width: 256}, wide, make([]byte, 280)); w == nil || err != api.OK {
		t.Errorf("280 bytes: %v", err)
	}
}

func TestAWriterThatIsNotThere(t *testing.T) {
	var none *reel.Writer[int]
	for i, w := range []*reel.Writer[int]{none, {}} {
		if w.Put() != api.ErrNil || w.Put(1, 2) != api.ErrNil || w.Flush() != api.ErrNil || w.Close() != api.ErrNil || w.Code() != api.ErrNil || w.Count() != 0 || w.Sum() != 0 {
			t.Errorf("Writer %d", i)
		}
	}
}

func TestAFileWithoutRecords(t *testing.T) {
	d := disk(t)
	v := &tape{Volume: d}
	w, _ := reel.Create(v, "f", updates, reel.UpdateForm(), make([]byte, 64))
	if w.Put() != api.OK || w.Flush() != api.OK || w.Flush() != api.OK || w.Code() != api.ErrState {
		t.Error("an open Writer")
	}
	if err := w.Close(); err != api.OK || w.Code() != api.OK || w.Count() != 0 || w.Sum() != 0 {
		t.Errorf("Close: %v", err)
	}
	if got, want := v.told(), "[Create f Append f 36 Append f 36 Sync f]"; got != want {
		t.Errorf("calls %s, not %s", got, want)
	}
	if !bytes.Equal(contents(t, d, "f"), file(updates)) {
		t.Errorf("the file is %x", contents(t, d, "f"))
	}
}

func TestShut(t *testing.T) {
	v := &tape{Volume: disk(t)}
	w, _ := reel.Create(v, "f", updates, reel.UpdateForm(), make([]byte, 64))
	w.Put(update(0), update(1), update(2))
	w.Close()
	count, sum := w.Count(), w.Sum()
	v.told()
	if w.Put() != api.ErrShut || w.Put(update(3)) != api.ErrShut || w.Flush() != api.ErrShut || w.Close() != api.ErrShut {
		t.Error("a closed Writer takes more")
	}
	if got := v.told(); got != "[]" {
		t.Errorf("a closed Writer calls %s", got)
	}
	if w.Code() != api.OK || w.Count() != count || w.Sum() != sum || count != 3 || sum != crc32.ChecksumIEEE(updateBytes(0, 3)) {
		t.Errorf("Code %v, Count %d, Sum %x", w.Code(), w.Count(), w.Sum())
	}
}

// A chunk goes out behind the record that fills the buffer, not ahead of the next one.
func TestChunkfuls(t *testing.T) {
	rows := []struct{ room, width, full int }{
		{36, 1, 12}, {36, 12, 1}, {36, 7, 1}, {38, 7, 2}, {37, 7, 1}, {44, 20, 1}, {63, 20, 1}, {64, 20, 2}, {280, 256, 1}, {535, 256, 1}, {536, 256, 2},
		{24 + 1<<20, 256, 4096}, {23 + 1<<20, 256, 4095}, {25 + 1<<20, 1, 1 << 20}, {1 << 21, 1, 1 << 20}, {1 << 21, 3, 349525}, {27 + 1<<20, 3, 349525}, {1 << 21, 255, 4112},
	}
	for _, r := range rows {
		v := &tape{Volume: disk(t)}
		w, err := reel.Create(v, "f", api.Title{Family: 1, Width: r.width}, reel.TextForm(r.width), make([]byte, r.room))
		if err != api.OK {
			t.Fatalf("%+v: %v", r, err)
		}
		v.told()
		lots := make([]string, r.full-1)
		if w.Put(lots...); v.told() != "[]" {
			t.Errorf("%+v: written ahead of a chunkful", r)
		}
		w.Put("x")
		if got, want := v.told(), fmt.Sprintf("[Append f %d]", 24+r.full*r.width); got != want {
			t.Errorf("%+v: a chunkful: %s, not %s", r, got, want)
		}
		if w.Flush(); v.told() != "[]" {
			t.Errorf("%+v: a chunk without records", r)
		}
		if w.Put("y"); r.full > 1 && v.told() != "[]" {
			t.Errorf("%+v: written early", r)
		}
		if w.Count() != int64(r.full)+1 {
			t.Errorf("%+v: Count %d", r, w.Count())
		}
	}
}

func TestFlush(t *testing.T) {
	d := disk(t)
	v := &tape{Volume: d}
	w, _ := reel.Create(v, "f", updates, reel.UpdateForm(), make([]byte, 24+5*20))
	sums := []uint32{}
	for _, n := range []int{1, 4, 0, 5, 7} {
		for range n {
			w.Put(update(int(w.Count())))
		}
		if err := w.Flush(); err != api.OK {
			t.Errorf("Flush: %v", err)
		}
		sums = append(sums, w.Sum())
	}
	w.Close()
	if got, want := v.told(), "[Create f Append f 36 Append f 44 Append f 104 Append f 124 Append f 124 Append f 64 Append f 36 Sync f]"; got != want {
		t.Errorf("calls %s, not %s", got, want)
	}
	if !bytes.Equal(contents(t, d, "f"), file(updates, updateBytes(0, 1), updateBytes(1, 5), updateBytes(5, 10), updateBytes(10, 15), updateBytes(15, 17))) {
		t.Error("another file")
	}
	for i, n := range []int{1, 5, 5, 10, 17} {
		if want := crc32.ChecksumIEEE(updateBytes(0, n)); sums[i] != want {
			t.Errorf("Sum behind %d records: %x, not %x", n, sums[i], want)
		}
	}
}

// What is in the buffer only is not in Sum, but in Count.
func TestCountAndSum(t *testing.T) {
	w, _ := reel.Create(disk(t), "f", updates, reel.UpdateForm(), make([]byte, 64))
	for i := range 7 {
		if w.Count() != int64(i) || w.Sum() != crc32.ChecksumIEEE(updateBytes(0, i/2*2)) || w.Code() != api.ErrState {
			t.Errorf("behind %d records: Count %d, Sum %x", i, w.Count(), w.Sum())
		}
		w.Put(update(i))
	}
}

// Writers that hold no records leave the buffer to others: so several can take turns with one.
func TestWritersShareABuffer(t *testing.T) {
	d := disk(t)
	whole := make([]byte, 100)
	for i := range whole {
		whole[i] = 0xaa
	}
	buf := whole[:84] // three records
	var ws [3]*reel.Writer[api.Update]
	for i := range ws {
		ws[i], _ = reel.Create(d, fmt.Sprint("f", i), updates, reel.UpdateForm(), buf)
	}
	for turn := range 5 {
		for i, w := range ws {
			for k := range i + 1 {
				w.Put(update(10*turn + k))
			}
			if i < 2 {
				w.Flush()
			}
			for j := range buf {
				buf[j] = byte(turn + j)
			}
		}
	}
	// The last one holds a record, while the others end their files.
	ws[2].Put(update(70))
	if ws[0].Flush() != api.OK || ws[0].Close() != api.OK || ws[1].Close() != api.OK {
		t.Error("Close")
	}
	w, err := reel.Create(d, "g", updates, reel.UpdateForm(), buf)
	if err != api.OK || w.Close() != api.OK || ws[2].Close() != api.OK {
		t.Errorf("Create: %v", err)
	}
	for i := range ws {
		var bodies [][]byte
		for turn := range 5 {
			bodies = append(bodies, updateBytes(10*turn, 10*turn+i+1))
		}
		if i == 2 {
			bodies = append(bodies, updateBytes(70, 71))
		}
		if !bytes.Equal(contents(t, d, fmt.Sprint("f", i)), file(updates, bodies...)) {
			t.Errorf("file %d is another", i)
		}
	}
	for i, b := range whole[84:] {
		if b != 0xaa {
			t.Errorf("byte %d behind the buffer is changed", i)
		}
	}
}

// Every operation of a Writer is struck by every fault: the call that made it ends with its error, nothing is asked of the disk any more, and all that was counted stays.
func TestFaultsOfWriting(t *testing.T) {
	kinds := map[int]api.Errno{api.FaultWrite: api.ErrIO, api.FaultTorn: api.ErrIO, api.FaultSync: api.ErrIO, api.FaultOff: api.ErrOff, api.FaultDown: api.ErrIO}
	fits := func(kind, op int) bool { // Create, title, three chunks, end, Sync
		switch kind {
		case api.FaultWrite, api.FaultTorn:
			return op >= 2 && op <= 6
		case api.FaultSync:
			return op == 7
		}
		return true
	}
	for kind, want := range kinds {
		for op := 1; op <= 7; op++ {
			d := disk(t, api.Fault{Op: int64(op), Kind: kind, N: 5})
			struck := fits(kind, op)
			w, err := reel.Create(d, "f", updates, reel.UpdateForm(), make([]byte, 64))
			if struck && op <= 2 {
				if w != nil || err != want || d.Ops() != int64(op) {
					t.Errorf("kind %d at %d: Create: %v, %d operations", kind, op, err, d.Ops())
				}
				continue
			}
			if w == nil || err != api.OK {
				t.Fatalf("kind %d at %d: Create: %v", kind, op, err)
			}
			answers := []api.Errno{w.Put(update(0), update(1), update(2), update(3), update(4)), w.Close()}
			calls, count, wrote := []api.Errno{api.OK, api.OK}, int64(5), 5
			switch {
			case struck && op <= 4:
				calls, count, wrote = []api.Errno{want, api.ErrShut}, int64(2*(op-2)), 2*(op-3)
			case struck:
				calls[1] = want
				if op == 5 {
					wrote = 4
				}
			}
			if answers[0] != calls[0] || answers[1] != calls[1] {
				t.Errorf("kind %d at %d: %v, not %v", kind, op, answers, calls)
			}
			code := api.OK
			if struck {
				code = want
			}
			if w.Code() != code || w.Count() != count || w.Sum() != crc32.ChecksumIEEE(updateBytes(0, wrote)) {
				t.Errorf("kind %d at %d: Code %v, Count %d, Sum %x", kind, op, w.Code(), w.Count(), w.Sum())
			}
			ops := int64(7)
			if struck {
				ops = int64(op)
			}
			if w.Put(update(9)) != api.ErrShut || w.Put() != api.ErrShut || w.Flush() != api.ErrShut || w.Close() != api.ErrShut || d.Ops() != ops || w.Code() != code || w.Count() != count {
				t.Errorf("kind %d at %d: behind it: %d operations", kind, op, d.Ops())
			}
		}
	}
}

// A record whose Flush is refused was taken; those behind it were not.
func TestNoRoomOnTheVolume(t *testing.T) {
	d, _ := platter.New(36 + 64 + 10)
	w, _ := reel.Create(d, "f", updates, reel.UpdateForm(), make([]byte, 64))
	if err := w.Put(update(0), update(1), update(2), update(3), update(4)); err != api.ErrQuota || w.Count() != 4 || w.Code() != api.ErrQuota {
		t.Errorf("Put: %v, Count %d", err, w.Count())
	}
	if w.Sum() != crc32.ChecksumIEEE(updateBytes(0, 2)) {
		t.Errorf("Sum %x", w.Sum())
	}
	if size, _ := d.Size("f"); size != 100 {
		t.Errorf("%d bytes", size)
	}
}

func TestFlushIsStruck(t *testing.T) {
	d := disk(t, api.Fault{Op: 3, Kind: api.FaultTorn, N: 30})
	w, _ := reel.Create(d, "f", updates, reel.UpdateForm(), make([]byte, 64))
	if w.Put(update(0)) != api.OK || w.Flush() != api.ErrIO || w.Code() != api.ErrIO || w.Count() != 1 || w.Sum() != 0 || w.Close() != api.ErrShut || d.Ops() != 3 {
		t.Errorf("Code %v, Count %d, Sum %x", w.Code(), w.Count(), w.Sum())
	}
	b := contents(t, d, "f")
	if whole := file(updates, updateBytes(0, 1)); !strings.HasPrefix(string(whole), string(b)) || len(b) != 66 {
		t.Errorf("%d bytes", len(b))
	}
}

// states is a volume that refuses with an error of no layer's, and with ErrState, which Code answers of an open Writer too.
type states struct {
	api.Volume
	code api.Errno
	left int
}

func (s *states) Append(name string, data []byte) api.Errno {
	if s.left--; s.left < 0 {
		return s.code
	}
	return s.Volume.Append(name, data)
}

func TestErrorsComeAsTheyAre(t *testing.T) {
	for _, code := range []api.Errno{api.ErrState, api.ErrShut, -7, 999} {
		w, err := reel.Create(&states{disk(t), code, 1}, "f", updates, reel.UpdateForm(), make([]byte, 64))
		if err != api.OK {
			t.Fatal(err)
		}
		if w.Put(update(0)) != api.OK || w.Flush() != code || w.Code() != code || w.Put() != api.ErrShut || w.Flush() != api.ErrShut {
			t.Errorf("%d: Code %v", code, w.Code())
		}
	}
}
