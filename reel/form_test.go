package reel_test

import (
	"encoding/binary"
	"testing"

	"sluice/api"
	"sluice/reel"
)

func putByte(b []byte, t byte) { b[0] = t }
func getByte(b []byte) byte    { return b[0] }

// laid lays a record amid other bytes, looks whether they stay, and takes the record again.
func laid[T comparable](t *testing.T, f reel.Form[T], in T, want string, out T) {
	t.Helper()
	if f.Width() != len(want) {
		t.Errorf("%v: Width %d, not %d", in, f.Width(), len(want))
	}
	whole := make([]byte, len(want)+9)
	for i := range whole {
		whole[i] = 0xee
	}
	b := whole[2 : len(want)+5]
	if err := f.Lay(b, in); err != api.OK {
		t.Errorf("%v: Lay: %v", in, err)
	}
	if got := string(b[:len(want)]); got != want {
		t.Errorf("%v lies as %q, not %q", in, got, want)
	}
	for i, x := range whole {
		if (i < 2 || i >= 2+len(want)) && x != 0xee {
			t.Errorf("%v: byte %d beside it is changed", in, i-2)
		}
	}
	if got, err := f.Take(b); err != api.OK || got != out {
		t.Errorf("%v: Take: %v %v", in, got, err)
	}
	if got, err := f.Take(b[:len(want)]); err != api.OK || got != out {
		t.Errorf("%v: Take of just its bytes: %v %v", in, got, err)
	}
	short := []byte(string(b[:len(want)-1]))
	was := string(short)
	if err := f.Lay(short, in); err != api.ErrRoom || string(short) != was {
		t.Errorf("%v: Lay into too few bytes: %v", in, err)
	}
	var zero T
	if got, err := f.Take(short); err != api.ErrRoom || got != zero {
		t.Errorf("%v: Take of too few bytes: %v %v", in, got, err)
	}
	if err := f.Lay(nil, in); err != api.ErrRoom {
		t.Errorf("%v: Lay into nothing: %v", in, err)
	}
}

func TestForms(t *testing.T) {
	laid(t, reel.TextForm(4), "ab", "ab\x00\x00", "ab\x00\x00")
	laid(t, reel.TextForm(4), "abcdef", "abcd", "abcd")
	laid(t, reel.TextForm(4), "abcd", "abcd", "abcd")
	laid(t, reel.TextForm(1), "", "\x00", "\x00")
	laid(t, reel.TextForm(3), "\xff\x00a", "\xff\x00a", "\xff\x00a")
	laid(t, reel.FormOf(1, putByte, getByte), 7, "\x07", 7)
	laid(t, reel.UpdateForm(), api.Update{To: 0x04030201, A: 0x0c0b0a0908070605, B: 0x14131211100f0e0d},
		"\x01\x02\x03\x04\x05\x06\x07\x08\x09\x0a\x0b\x0c\x0d\x0e\x0f\x10\x11\x12\x13\x14",
		api.Update{To: 0x04030201, A: 0x0c0b0a0908070605, B: 0x14131211100f0e0d})
	long := make([]byte, api.MaxRecord)
	long[0], long[api.MaxRecord-1] = 'x', 'y'
	laid(t, reel.TextForm(api.MaxRecord), string(long), string(long), string(long))
}

func TestEdgeForms(t *testing.T) {
	e := api.Edge{Src: 0x04030201, Dst: 0x08070605, W: 0x0c0b0a09}
	bare := api.Edge{Src: e.Src, Dst: e.Dst}
	for kind := api.EdgeKind(-2); kind < 7; kind++ {
		f, err := reel.EdgeForm(kind)
		switch kind {
		case api.EPlain:
			laid(t, f, e, "\x01\x02\x03\x04\x05\x06\x07\x08", bare)
		case api.ECounted, api.EReal:
			laid(t, f, e, "\x01\x02\x03\x04\x05\x06\x07\x08\x09\x0a\x0b\x0c", e)
		default:
			if err != api.ErrArg || f.Width() != 0 || f.Lay(make([]byte, 20), e) != api.ErrArg {
				t.Errorf("kind %d: %v, width %d", kind, err, f.Width())
			}
			continue
		}
		if err != api.OK {
			t.Errorf("kind %d: %v", kind, err)
		}
	}
}

func TestStateForms(t *testing.T) {
	var s api.State
	var bytes []byte
	for i := range s {
		s[i] = 0x8070605040302010 + uint64(i)
		bytes = binary.LittleEndian.AppendUint64(bytes, s[i])
	}
	for _, words := range []int{-1 << 62, -1, 0, 9, 1 << 61, 1 << 62} {
		if f, err := reel.StateForm(words); err != api.ErrArg || f.Width() != 0 {
			t.Errorf("%d words: %v, width %d", words, err, f.Width())
		}
	}
	for words := 1; words <= api.StateWords; words++ {
		f, err := reel.StateForm(words)
		if err != api.OK {
			t.Errorf("%d words: %v", words, err)
		}
		var kept api.State
		copy(kept[:], s[:words])
		laid(t, f, s, string(bytes[:8*words]), kept)
	}
}

func TestFormsThatAreNotRight(t *testing.T) {
	var none reel.Form[byte]
	if none.Width() != 0 {
		t.Errorf("a zero form's width: %d", none.Width())
	}
	forms := []reel.Form[byte]{
		none,
		reel.FormOf(0, putByte, getByte),
		reel.FormOf(-1, putByte, getByte),
		reel.FormOf(-1<<63, putByte, getByte),
		reel.FormOf(api.MaxRecord+1, putByte, getByte),
		reel.FormOf(1<<62, putByte, getByte),
		reel.FormOf[byte](1, nil, getByte),
		reel.FormOf(1, putByte, nil),
		reel.FormOf[byte](1, nil, nil),
	}
	widths := []int{0, 0, -1, -1 << 63, api.MaxRecord + 1, 1 << 62, 1, 1, 1}
	for i, f := range forms {
		b := make([]byte, 600)
		if f.Width() != widths[i] {
			t.Errorf("form %d: width %d", i, f.Width())
		}
		if err := f.Lay(b, 9); err != api.ErrArg || b[0] != 0 {
			t.Errorf("form %d: Lay: %v", i, err)
		}
		if err := f.Lay(nil, 9); err != api.ErrArg {
			t.Errorf("form %d: Lay into nothing: %v", i, err)
		}
		if x, err := f.Take(b); err != api.ErrArg || x != 0 {
			t.Errorf("form %d: Take: %v", i, err)
		}
	}
	for _, width := range []int{-5, 0, api.MaxRecord + 1} {
		f := reel.TextForm(width)
		if err := f.Lay(make([]byte, 600), "a"); err != api.ErrArg || f.Width() != width {
			t.Errorf("texts of %d bytes: %v, width %d", width, err, f.Width())
		}
		if s, err := f.Take(make([]byte, 600)); err != api.ErrArg || s != "" {
			t.Errorf("texts of %d bytes: Take: %q %v", width, s, err)
		}
	}
}

func TestFormsHandOnJustTheRecord(t *testing.T) {
	var puts, gets []int
	f := reel.FormOf(3, func(b []byte, t int) { puts = append(puts, len(b), cap(b)) }, func(b []byte) int {
		gets = append(gets, len(b), cap(b))
		return 0
	})
	b := make([]byte, 10)
	f.Lay(b, 1)
	f.Take(b)
	if len(puts) != 2 || puts[0] != 3 || puts[1] != 3 || len(gets) != 2 || gets[0] != 3 || gets[1] != 3 {
		t.Errorf("handed on: %v %v", puts, gets)
	}
	d := disk(t)
	title := api.Title{Family: 9, Width: 3}
	w, _ := reel.Create(d, "f", title, f, make([]byte, 50))
	if w.Put(1, 2, 3) != api.OK || w.Close() != api.OK {
		t.Fatal("not written")
	}
	r, _ := reel.Open(d, "f", title, f, make([]byte, 50))
	for range r.All() {
	}
	if len(puts) != 8 || len(gets) != 8 || puts[7] != 3 || gets[7] != 3 {
		t.Errorf("handed on by Put and Next: %v %v", puts, gets)
	}
}
