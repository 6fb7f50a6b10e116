package loom_test

import (
	"encoding/binary"
	"hash/crc32"
	"slices"
	"testing"

	"sluice/api"
	"sluice/loom"
)

// sealed lays a sum behind bytes.
func sealed(b []byte) string {
	return string(binary.LittleEndian.AppendUint32(slices.Clone(b), crc32.ChecksumIEEE(b)))
}

// encoded is P11.9 by its words.
func encoded(c api.Code) string {
	b := []byte{'L', 'O', 'O', 'M', 1, byte(c.Words)}
	for _, k := range append(append(append(c.State[:], c.Agg[:]...), c.Ctl[:]...), c.MsgA, c.MsgB) {
		b = append(b, byte(k))
	}
	b = append(b, byte(c.Sink.A), byte(c.Sink.MonA), byte(c.Sink.B), byte(c.Sink.MonB), 0)
	if c.Both {
		b[len(b)-1] = 1
	}
	for _, list := range c.Hands {
		b = binary.LittleEndian.AppendUint16(b, uint16(len(list)))
		for _, x := range list {
			b = binary.LittleEndian.AppendUint64(append(b, byte(x.Op)), uint64(x.Arg))
		}
	}
	return sealed(b)
}

// P11.9, P11.10: the bytes of a code, by hand and by the words of the promise; and back.
func TestEncode(t *testing.T) {
	b, e := loom.Encode(small())
	if want := sealed([]byte("LOOM\x01\x01\x01\x00\x00\x00\x00\x00\x00\x00" + "\x00\x00\x00\x00\x00\x00\x00\x00" + "\x00\x00\x00\x00" + "\x01\x00" + "\x00\x00\x00\x00\x00" +
		"\x01\x00\x00\x00\x00\x00\x00\x00\x00\x00\x00" +
		"\x03\x00\x01\x07\x00\x00\x00\x00\x00\x00\x00\x03\x01\x00\x00\x00\x00\x00\x00\x00\x00\x00\x00\x00\x00\x00\x00\x00\x00" +
		"\x02\x00\x03\x00\x00\x00\x00\x00\x00\x00\x00\x00\x00\x00\x00\x00\x00\x00\x00\x00" +
		"\x01\x00\x00\x00\x00\x00\x00\x00\x00\x00\x00" +
		"\x02\x00\x03\x01\x00\x00\x00\x00\x00\x00\x00\x00\x00\x00\x00\x00\x00\x00\x00\x00")); b != want || e != api.OK {
		t.Errorf("%x, %d\nnot\n%x", b, e, want)
	}
	long := mixed()
	for hand := range long.Hands {
		long.Hands[hand] = append(slices.Clone(long.Hands[hand]), slices.Repeat([]api.Ins{op(api.OpInt, -2-int64(hand))}, 512-len(long.Hands[hand]))...)
	}
	roll, all := dice(8), rows()
	codes := append(kinds(), long)
	for len(codes) < 1000 {
		c := oddCode(roll, all, 1+roll.IntN(40), false)
		if ok, _, _ := (model{all, c}).check(); ok {
			codes = append(codes, c)
		}
	}
	for _, c := range codes {
		b, e := loom.Encode(c)
		if b != encoded(c) || e != api.OK {
			t.Fatalf("%x, %d of %v", b, e, c)
		}
		if got, e := loom.Decode(b); e != api.OK || !same(got, c) {
			t.Fatalf("%v, %d, not %v", got, e, c)
		}
	}
	wrong := mixed()
	wrong.Words = 6
	for _, c := range []api.Code{{}, wrong, with(mixed(), 2, halt)} {
		if b, e := loom.Encode(c); b != "" || e != api.ErrCode {
			t.Errorf("%q, %d", b, e)
		}
	}
}

// undecoded fails, unless Decode refuses bytes.
func undecoded(t *testing.T, what any, b string) {
	t.Helper()
	if c, e := loom.Decode(b); e != api.ErrImage || !same(c, api.Code{}) {
		t.Errorf("%v: %v, %d", what, c, e)
	}
}

// P11.10: each bit turned, each byte cut or added.
func TestDecodeTurned(t *testing.T) {
	c, _, _ := loom.Parse(bfs)
	for _, c := range append(kinds(), c) {
		b, _ := loom.Encode(c)
		for i := range len(b) * 8 {
			turned := []byte(b)
			turned[i/8] ^= 1 << (i % 8)
			undecoded(t, i, string(turned))
		}
		for n := range len(b) {
			undecoded(t, n, b[:n])
			undecoded(t, -n, b[n+1:])
			undecoded(t, "cut out", b[:n]+b[n+1:])
			undecoded(t, "added", b[:n]+"\x00"+b[n:])
		}
		undecoded(t, "twice", b+b)
		undecoded(t, "behind", b+"\x00")
		undecoded(t, "long", b+string(make([]byte, 1<<20)))
	}
}

// P11.10: other bytes with a right sum: what no code that Check takes has.
func TestDecodeSealed(t *testing.T) {
	c := mixed()
	b, _ := loom.Encode(c)
	body := []byte(b[:len(b)-4])
	read := 0
	for i := range body {
		for v := range 256 {
			changed := slices.Clone(body)
			changed[i] = byte(v)
			text := sealed(changed)
			got, e := loom.Decode(text)
			switch e {
			case api.OK:
				read++
				taken(t, got)
				if again, _ := loom.Encode(got); again != text {
					t.Fatalf("byte %d as %d", i, v)
				}
			case api.ErrImage:
				if !same(got, api.Code{}) {
					t.Fatalf("byte %d as %d", i, v)
				}
			default:
				t.Fatalf("byte %d as %d: %d", i, v, e)
			}
			if i < 5 && (e == api.OK) != (v == int(body[i])) || i == 32 && (e == api.OK) != (v < 2) {
				t.Errorf("byte %d as %d: %d", i, v, e)
			}
		}
	}
	if read < len(body) {
		t.Errorf("%d read", read)
	}
	for n := range body {
		undecoded(t, n, sealed(body[:n]))
		undecoded(t, n, sealed(body[n+1:]))
	}
	undecoded(t, "a byte more", sealed(append(slices.Clone(body), 0)))
	undecoded(t, "nothing", sealed(nil))
	undecoded(t, "no bytes", "")
	// A code whose handlers Check refuses, laid down as if it did not.
	wrong := with(mixed(), 3, op(api.OpDrop), halt)
	undecoded(t, "a wrong code", encoded(wrong))
	undecoded(t, "no code", encoded(api.Code{}))
	undecoded(t, "too long", encoded(with(mixed(), 3, make([]api.Ins, 513)...)))
	undecoded(t, "much too long", encoded(with(mixed(), 3, make([]api.Ins, 65535)...)))
	undecoded(t, "longer than it says", sealed(append(slices.Clone(body[:33]), 255, 255, 255, 255, 255, 255, 255, 255, 255, 255)))
}

// P11.8, P11.10: what is read shares no memory with another list of it.
func TestReadApart(t *testing.T) {
	text, _ := loom.Print(mixed())
	c, _, _ := loom.Parse(text)
	apart(t, mixed(), c)
	b, _ := loom.Encode(mixed())
	c, _ = loom.Decode(b)
	apart(t, mixed(), c)
}
