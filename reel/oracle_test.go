package reel_test

import (
	"encoding/binary"
	"fmt"
	"hash/crc32"
	"math/rand"
	"slices"
	"testing"

	"sluice/api"
	"sluice/reel"
)

// seen is what P6.9 finds in a file, word by word.
type seen struct {
	title  api.Title
	bodies [][]byte
	code   api.Errno // the first fault
	reads  string    // the calls that find it
}

func (s *seen) all() []byte { return slices.Concat(s.bodies...) }

// judge goes through a file as the chapter says it, with a buffer of room bytes; want: the title that it must have (nil: any).
func judge(b []byte, want *api.Title, room int) *seen {
	s := &seen{}
	at, number := 0, uint32(0)
	calls := []string{"Size f"}
	defer func() { s.reads = fmt.Sprint(calls) }()
	u32 := binary.LittleEndian.Uint32
	for {
		if len(b)-at < 24 {
			s.code = api.ErrTorn
			return s
		}
		h := b[at : at+24]
		calls = append(calls, fmt.Sprintf("ReadAt f %d 24", at))
		at += 24
		if h[0] != 'R' || h[1] != 'L' || h[3] != 1 || u32(h[20:]) != crc32.ChecksumIEEE(h[:20]) {
			s.code = api.ErrChunk
			return s
		}
		kind, no, records, length, sum := h[2], u32(h[4:]), uint64(u32(h[8:])), uint64(u32(h[12:])), u32(h[16:])
		ok := no == number
		switch {
		case kind == 1:
			ok = ok && number == 0 && records == 0 && length == 12
		case kind == 2:
			ok = ok && number > 0 && records >= 1 && length <= 1<<20 && length == records*uint64(s.title.Width)
		case kind == 3:
			ok = ok && number > 0 && records == 0 && length == 12
		default:
			ok = false
		}
		if !ok {
			s.code = api.ErrOrder
			return s
		}
		if length > uint64(room) {
			s.code = api.ErrRoom
			return s
		}
		if uint64(len(b)-at) < length {
			s.code = api.ErrTorn
			return s
		}
		body := b[at : at+int(length)]
		calls = append(calls, fmt.Sprintf("ReadAt f %d %d", at, length))
		at += int(length)
		if sum != crc32.ChecksumIEEE(body) {
			s.code = api.ErrBody
			return s
		}
		number++
		switch kind {
		case 1:
			t := api.Title{Family: int(body[0]) + 256*int(body[1]), Width: int(body[2]) + 256*int(body[3]), Tag: binary.LittleEndian.Uint64(body[4:])}
			if t.Family == 0 || t.Family > 255 || t.Width == 0 || t.Width > 256 || want != nil && t != *want {
				s.code = api.ErrTitle
				return s
			}
			s.title = t
		case 2:
			s.bodies = append(s.bodies, body)
		case 3:
			all := s.all()
			if binary.LittleEndian.Uint64(body) != uint64(len(all)/s.title.Width) || u32(body[8:]) != crc32.ChecksumIEEE(all) {
				s.code = api.ErrTotal
			} else if at < len(b) {
				s.code = api.ErrBehind
			}
			return s
		}
	}
}

// held holds a Scan and a Reader of a file against what the chapter's words find in it.
func held(t *testing.T, what string, b []byte, title api.Title, room int) {
	t.Helper()
	v := &tape{Volume: lie(t, "f", b)}
	want := judge(b, nil, room)
	got, records, sum, err := reel.Scan(v, "f", make([]byte, room))
	all := want.all()
	count := int64(0)
	if want.title.Width > 0 {
		count = int64(len(all) / want.title.Width)
	}
	if got != want.title || records != count || sum != crc32.ChecksumIEEE(all) || err != want.code {
		t.Errorf("%s: Scan: %v %d %x %v, not %v %d %v", what, got, records, sum, err, want.title, count, want.code)
	}
	if calls := v.told(); calls != want.reads {
		t.Errorf("%s: Scan calls %s, not %s", what, calls, want.reads)
	}
	heldByReader(t, what, v, b, title, room)
	if v.loose {
		t.Errorf("%s: a read may fill more than it is asked for", what)
	}
}

func heldByReader(t *testing.T, what string, v *tape, b []byte, title api.Title, room int) {
	t.Helper()
	want := judge(b, &title, room)
	r, err := reel.Open(v, "f", title, reel.TextForm(title.Width), make([]byte, room))
	if want.title != title {
		if r != nil || err != want.code || v.told() != want.reads {
			t.Errorf("%s: Open: %v, not %v", what, err, want.code)
		}
		return
	}
	if err != api.OK || r == nil {
		t.Errorf("%s: Open: %v", what, err)
		return
	}
	var told []byte
	for x, ok := r.Next(); ok; x, ok = r.Next() {
		told = append(told, x...)
	}
	all := want.all()
	if string(told) != string(all) || r.Count() != int64(len(all)/title.Width) || r.Sum() != crc32.ChecksumIEEE(all) {
		t.Errorf("%s: Reader tells %d records, not %d", what, r.Count(), len(all)/title.Width)
	}
	if r.Code() != want.code || r.Done() != (want.code == api.OK) {
		t.Errorf("%s: Reader: %v, Done %v, not %v", what, r.Code(), r.Done(), want.code)
	}
	if x, ok := r.Next(); ok || x != "" || r.Code() != want.code || r.Done() != (want.code == api.OK) {
		t.Errorf("%s: Next behind all: %q, %v, Done %v", what, x, r.Code(), r.Done())
	}
	if calls := v.told(); calls != want.reads {
		t.Errorf("%s: Reader calls %s, not %s", what, calls, want.reads)
	}
}

// spoil makes chunks that are wrong in some way, though their sums may be right.
func spoil(r *rand.Rand, width int) []byte {
	title := titleBody(uint16(r.Intn(3)), uint16(width), 5)
	switch r.Intn(12) {
	case 0:
		title = titleBody(uint16(254+r.Intn(4)), uint16(width), 5)
	case 1:
		title = titleBody(1, []uint16{0, 256, 257, 65535}[r.Intn(4)], 5)
	case 2:
		title = title[:r.Intn(12)]
	}
	few := func(n uint32) uint32 { // mostly n
		switch r.Intn(20) {
		case 0:
			return n + 1
		case 1:
			return uint32(r.Intn(4))
		case 2:
			return n | 1<<31
		}
		return n
	}
	kind := func(k byte) byte {
		if r.Intn(12) == 0 {
			return byte(r.Intn(5))
		}
		return k
	}
	b := chunkOf(kind(1), byte(min(1, r.Intn(40))), few(0), few(0), few(uint32(len(title))), title)
	var all []byte
	chunks := r.Intn(4)
	for i := range chunks {
		body := make([]byte, width*(1+r.Intn(3)))
		r.Read(body)
		if r.Intn(15) == 0 {
			body = append(body, 1)
		}
		b = append(b, chunkOf(kind(2), byte(min(1, r.Intn(40))), few(uint32(i+1)), few(uint32(len(body)/width)), few(uint32(len(body))), body)...)
		all = append(all, body...)
		if r.Intn(10) == 0 {
			return b
		}
	}
	end := endBody(uint64(few(uint32(len(all)/width))), crc32.ChecksumIEEE(all)^uint32(max(0, r.Intn(10)-8)))
	b = append(b, chunkOf(kind(3), 1, few(uint32(chunks+1)), few(0), few(12), end)...)
	return b
}

// So many files, right and wrong, are read as the chapter's words say: the same records, the same fault, by the same calls.
func TestFilesOfAllSorts(t *testing.T) {
	r := rand.New(rand.NewSource(6))
	codes := map[api.Errno]int{}
	for i := range 60000 {
		width := 1 + r.Intn(40)
		title := api.Title{Family: 1 + r.Intn(2), Width: width, Tag: 5}
		b := spoil(r, width)
		if r.Intn(3) == 0 {
			var bodies [][]byte
			for range r.Intn(4) {
				body := make([]byte, width*(1+r.Intn(3)))
				r.Read(body)
				bodies = append(bodies, body)
			}
			b = file(title, bodies...)
		}
		switch r.Intn(12) {
		case 0:
			b = b[:r.Intn(len(b)+1)]
		case 1:
			b = append(b, make([]byte, 1+r.Intn(40))...)
		case 2:
			b[r.Intn(len(b))] ^= 1 << r.Intn(8)
		}
		room := max(36, width) + r.Intn(60)
		codes[judge(b, &title, room).code]++
		held(t, fmt.Sprintf("file %d: %x", i, b), b, title, room)
		if t.Failed() {
			return
		}
	}
	for _, code := range []api.Errno{api.OK, api.ErrTorn, api.ErrChunk, api.ErrOrder, api.ErrRoom, api.ErrBody, api.ErrTitle, api.ErrTotal, api.ErrBehind} {
		if codes[code] < 100 {
			t.Errorf("only %d files with %v", codes[code], code)
		}
	}
}
