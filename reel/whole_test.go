package reel_test

import (
	"bytes"
	"fmt"
	"hash/crc32"
	"math/rand"
	"strings"
	"testing"

	"sluice/api"
	"sluice/reel"
	"sluice/stripe"
)

// written writes texts with flushes here and there, and tells what was given and the longest body.
func written(t *testing.T, r *rand.Rand, v api.Volume, title api.Title, room int) (given []string, longest int) {
	t.Helper()
	w, err := reel.Create(v, "f", title, reel.TextForm(title.Width), make([]byte, room))
	if err != api.OK {
		t.Fatalf("Create: %v", err)
	}
	full, held := min(room-24, api.MaxChunk)/title.Width, 0
	for range r.Intn(12) {
		some := make([]string, r.Intn(5))
		for i := range some {
			b := make([]byte, title.Width)
			r.Read(b)
			some[i] = string(b)
			held++
			longest = max(longest, held*title.Width)
			held %= full
		}
		given = append(given, some...)
		if w.Put(some...) != api.OK {
			t.Fatalf("Put: %v", w.Code())
		}
		if r.Intn(3) == 0 {
			held = 0
			if w.Flush() != api.OK {
				t.Fatalf("Flush: %v", w.Code())
			}
		}
	}
	if w.Close() != api.OK || w.Count() != int64(len(given)) || w.Sum() != crc32.ChecksumIEEE([]byte(strings.Join(given, ""))) {
		t.Fatalf("Close: %v, Count %d", w.Code(), w.Count())
	}
	return given, longest
}

// back reads texts and tells whether all were as they were given.
func back(t *testing.T, v api.Volume, title api.Title, room int, given []string) {
	t.Helper()
	r, err := reel.Open(v, "f", title, reel.TextForm(title.Width), make([]byte, room))
	if err != api.OK {
		t.Fatalf("Open: %v", err)
	}
	n := 0
	for i, x := range r.All() {
		if n == len(given) || i != int64(n) || x != given[n] {
			t.Fatalf("record %d is another", n)
		}
		n++
	}
	if n != len(given) || !r.Done() || r.Code() != api.OK || r.Sum() != crc32.ChecksumIEEE([]byte(strings.Join(given, ""))) {
		t.Errorf("%d of %d records, %v", n, len(given), r.Code())
	}
	if got, records, sum, err := reel.Scan(v, "f", make([]byte, room)); got != title || records != int64(n) || sum != r.Sum() || err != api.OK {
		t.Errorf("Scan: %v %d %v", got, records, err)
	}
}

func TestThereAndBack(t *testing.T) {
	r := rand.New(rand.NewSource(17))
	for range 3000 {
		title := api.Title{Family: 1 + r.Intn(255), Width: 1 + r.Intn(30), Tag: r.Uint64()}
		if r.Intn(10) == 0 {
			title.Width = 256 - r.Intn(3)
		}
		d := disk(t)
		given, longest := written(t, r, d, title, max(36, 24+title.Width)+r.Intn(100))
		least := max(36, title.Width, longest)
		back(t, d, title, least, given)
		back(t, crumbs{d, 1 + r.Intn(40)}, title, least+r.Intn(100), given)
		if longest > max(36, title.Width) {
			rd, _ := reel.Open(d, "f", title, reel.TextForm(title.Width), make([]byte, longest-1))
			for range rd.All() {
			}
			if rd.Code() != api.ErrRoom || rd.Done() {
				t.Errorf("a buffer that lacks a byte: %v", rd.Code())
			}
		}
		if t.Failed() {
			return
		}
	}
}

// A plan's short reads that are not empty do not show; an empty one is told.
func TestPlannedShortReads(t *testing.T) {
	r := rand.New(rand.NewSource(18))
	for range 500 {
		title := api.Title{Family: 1, Width: 1 + r.Intn(30)}
		d := disk(t)
		given, longest := written(t, r, d, title, 24+title.Width+40)
		ops := d.Ops()
		for i := range int64(30) {
			d.Plan(api.Fault{Op: ops + 1 + i, Kind: api.FaultShort, N: 1 + r.Int63n(20)})
		}
		back(t, d, title, max(36, title.Width, longest), given)
	}
}

func TestOnAStripe(t *testing.T) {
	a, b, c := disk(t), disk(t), disk(t)
	s, err := stripe.Format(16, a, b, c)
	if err != api.OK {
		t.Fatalf("Format: %v", err)
	}
	r := rand.New(rand.NewSource(19))
	title := api.Title{Family: 4, Width: 13, Tag: 9}
	given, longest := written(t, r, s, title, 100)
	back(t, s, title, max(36, longest), given)
	if s.SyncDir() != api.OK {
		t.Fatal("SyncDir")
	}
	c.Plan(api.Fault{Op: c.Ops() + 1, Kind: api.FaultDown})
	back(t, s, title, max(36, longest), given)
	for _, d := range []interface {
		Restart(int, ...int64) api.Errno
	}{a, b, c} {
		d.Restart(0)
	}
	s, err = stripe.Open(a, b, c)
	if err != api.OK {
		t.Fatalf("Open: %v", err)
	}
	back(t, s, title, max(36, longest), given)
}

// Chunks of a megabyte, and one more record.
func TestTheLongestChunk(t *testing.T) {
	d := disk(t)
	title := api.Title{Family: 1, Width: 256}
	w, _ := reel.Create(d, "f", title, reel.TextForm(256), make([]byte, 3<<20))
	given := make([]string, 4097)
	for i := range given {
		given[i] = fmt.Sprintf("%0256d", i)
	}
	if w.Put(given...) != api.OK || w.Close() != api.OK {
		t.Fatalf("not written: %v", w.Code())
	}
	back(t, d, title, 1<<20, given)
	if size, _ := d.Size("f"); size != 36+24+1<<20+24+256+36 {
		t.Errorf("%d bytes", size)
	}
}

// span is where a head or a body lies in a file.
type span struct{ at, end int }

// spans tells them of the example's file.
func spans() []span {
	return []span{{0, 24}, {24, 36}, {36, 60}, {60, 100}, {100, 124}, {124, 144}, {144, 168}, {168, 180}}
}

// burst turns bits within 32 beside one another of a span; some at least.
func (s span) burst(r *rand.Rand, b []byte) {
	bits := 8 * (s.end - s.at)
	first := r.Intn(bits)
	width := 1 + r.Intn(min(32, bits-first))
	for i := range width {
		if i == 0 || i == width-1 || r.Intn(2) == 0 {
			bit := 8*s.at + first + i
			b[bit/8] ^= 1 << (bit % 8)
		}
	}
}

// beginning looks whether just a beginning of the three updates is told, and how it ends.
func beginning(t *testing.T, what string, v api.Volume, room int) (told int, done bool) {
	t.Helper()
	r, err := reel.Open(v, "f", updates, reel.UpdateForm(), make([]byte, room))
	if err != api.OK {
		return 0, false
	}
	for i, u := range r.All() {
		if i != int64(told) || u != update(told) {
			t.Errorf("%s: record %d is told as %v", what, told, u)
		}
		told++
	}
	if r.Done() != (r.Code() == api.OK) || r.Done() && told != 3 {
		t.Errorf("%s: %d records, Done %v, %v", what, told, r.Done(), r.Code())
	}
	return told, r.Done()
}

func TestEveryBitIsTold(t *testing.T) {
	d := disk(t)
	three(t, d)
	told := []int{0, 0, 0, 0, 2, 2, 3, 3}
	for i, s := range spans() {
		for bit := 8 * s.at; bit < 8*s.end; bit++ {
			d.Flip("f", int64(bit))
			if n, done := beginning(t, fmt.Sprint("bit ", bit), d, 64); n != told[i] || done {
				t.Errorf("bit %d: %d records, done %v", bit, n, done)
			}
			if _, n, _, err := reel.Scan(d, "f", make([]byte, 64)); n != int64(told[i]) || err == api.OK {
				t.Errorf("bit %d: Scan: %d %v", bit, n, err)
			}
			d.Flip("f", int64(bit))
		}
	}
	if _, done := beginning(t, "whole", d, 64); !done {
		t.Error("the whole file is not read")
	}
}

// Bits within 32 are turned in one span, or in several, each with its own.
func TestBurstsAreTold(t *testing.T) {
	d := disk(t)
	three(t, d)
	whole := contents(t, d, "f")
	r := rand.New(rand.NewSource(32))
	all := spans()
	for i := range 20000 {
		b := bytes.Clone(whole)
		for k := range 1 + r.Intn(8) {
			if k == 0 || r.Intn(2) == 0 {
				s := all[(i+k)%len(all)]
				s.burst(r, b)
			}
		}
		if _, done := beginning(t, fmt.Sprintf("%x", b), lie(t, "f", b), 64); done && !bytes.Equal(b, whole) {
			t.Errorf("%x: done", b)
		}
		if _, _, _, err := reel.Scan(lie(t, "f", b), "f", make([]byte, 64)); err == api.OK && !bytes.Equal(b, whole) {
			t.Errorf("%x: whole", b)
		}
	}
}

func TestEveryCutIsTold(t *testing.T) {
	d := disk(t)
	three(t, d)
	whole := contents(t, d, "f")
	for n := range whole {
		want := 0
		switch {
		case n >= 144:
			want = 3
		case n >= 100:
			want = 2
		}
		v := lie(t, "f", whole[:n])
		if told, done := beginning(t, fmt.Sprint(n, " bytes"), v, 64); told != want || done {
			t.Errorf("%d bytes: %d records, done %v", n, told, done)
		}
		if _, records, _, err := reel.Scan(v, "f", make([]byte, 64)); records != int64(want) || err != api.ErrTorn {
			t.Errorf("%d bytes: Scan: %d %v", n, records, err)
		}
	}
	for more := range 200 {
		v := lie(t, "f", append(bytes.Clone(whole), whole[:min(more+1, 180)]...))
		if told, done := beginning(t, fmt.Sprint(more+1, " bytes more"), v, 64); told != 3 || done {
			t.Errorf("%d bytes more: %d records, done %v", more+1, told, done)
		}
	}
}

// A volume turns bits in what it reads: of every read of a Reader, once in each bit.
func TestGhostsAreTold(t *testing.T) {
	whole := disk(t)
	three(t, whole)
	told := []int{0, 0, 0, 0, 2, 2, 3, 3}
	for i, s := range spans() {
		for bit := range 8 * (s.end - s.at) {
			d := whole.Copy()
			d.Plan(api.Fault{Op: d.Ops() + int64(i) + 2, Kind: api.FaultGhost, N: int64(bit)})
			if n, done := beginning(t, fmt.Sprintf("read %d, bit %d", i, bit), d, 64); n != told[i] || done {
				t.Errorf("read %d, bit %d: %d records, done %v", i, bit, n, done)
			}
		}
	}
	r := rand.New(rand.NewSource(33))
	for range 3000 {
		v := &tape{Volume: whole}
		turned := false
		v.after = func(at int64, read []byte) {
			if r.Intn(6) == 0 {
				turned = true
				span{0, len(read)}.burst(r, read)
			}
		}
		if _, done := beginning(t, "ghosts", v, 64); done == turned {
			t.Errorf("turned %v, done %v", turned, done)
		}
	}
}

// Rot strikes while the file is written, or while it is read.
func TestRotIsTold(t *testing.T) {
	for op := int64(2); op <= 6; op++ {
		for bit := range int64(180 * 8) {
			d := disk(t, api.Fault{Op: op, Kind: api.FaultRot, N: bit})
			w, _ := reel.Create(d, "f", updates, reel.UpdateForm(), make([]byte, 64))
			w.Put(update(0), update(1), update(2))
			if w.Close() != api.OK {
				t.Fatalf("Close: %v", w.Code())
			}
			if _, done := beginning(t, fmt.Sprintf("rot at %d, bit %d", op, bit), d, 64); done != (op == 6) { // the sixth is a Sync: rot does not fit
				t.Errorf("rot at %d, bit %d: done %v", op, bit, done)
			}
		}
	}
}
