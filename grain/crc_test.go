package grain_test

import (
	"bytes"
	"hash/crc32"
	"math"
	"testing"

	"sluice/api"
	"sluice/grain"
)

// shifted is the document's step, so many times.
func shifted(register uint32, times int) uint32 {
	for range times {
		if register&1 == 1 {
			register = register>>1 ^ 0xedb88320
		} else {
			register >>= 1
		}
	}
	return register
}

// throughRegister is the document's rule for the bytes behind a sum.
func throughRegister(sum uint32, b []byte) uint32 {
	register := ^sum
	for _, c := range b {
		register = shifted(register^uint32(c), 8)
	}
	return ^register
}

// noise is so many bytes.
func noise(n int) []byte {
	d := dice()
	b := make([]byte, n)
	for i := range b {
		b[i] = byte(d.Uint32())
	}
	return b
}

// P1.15, example 8.
func TestCRC(t *testing.T) {
	for text, want := range map[string]uint32{"": 0, "123456789": 0xcbf43926, "a": 0xe8b7be43} {
		if got := grain.CRC([]byte(text)); got != want {
			t.Errorf("CRC(%s): %x", text, got)
		}
	}
	if grain.CRC() != 0 || grain.CRC(nil) != 0 || grain.CRC(nil, []byte{}, nil) != 0 {
		t.Error("CRC of no bytes")
	}
	if got := grain.CRC(nil, []byte("123"), []byte{}, []byte("4567"), nil, []byte("89"), nil); got != 0xcbf43926 {
		t.Errorf("CRC of parts: %x", got)
	}
	for c := range 256 {
		b := []byte{byte(c)}
		if got := grain.CRC(b); got != throughRegister(0, b) || got != crc32.ChecksumIEEE(b) {
			t.Errorf("CRC of the byte %d: %x", c, got)
		}
	}
	b := noise(5000)
	before := bytes.Clone(b)
	for n := range len(b) {
		want := crc32.ChecksumIEEE(b[:n])
		if got := grain.CRC(b[:n]); got != want {
			t.Fatalf("CRC of %d bytes: %x, not %x", n, got, want)
		}
		if got := grain.CRC(b[:n/3], b[n/3:n/2], b[n/2:n]); got != want {
			t.Fatalf("CRC of %d bytes in three parts: %x, not %x", n, got, want)
		}
	}
	if !bytes.Equal(b, before) {
		t.Error("CRC changed what it was given")
	}
}

// P1.16: behind a sum, and behind any other number.
func TestMore(t *testing.T) {
	if got := grain.More(grain.CRC([]byte("1234")), []byte("56789")); got != 0xcbf43926 {
		t.Errorf("More: %x", got)
	}
	b, d := noise(200), dice()
	for n := range len(b) {
		if got := grain.More(grain.CRC(b[:n]), b[n:]); got != grain.CRC(b) {
			t.Errorf("More behind %d bytes: %x", n, got)
		}
		sum := d.Uint32()
		if got := grain.More(sum, b[:n]); got != throughRegister(sum, b[:n]) {
			t.Errorf("More(%x, %d bytes): %x", sum, n, got)
		}
	}
	for _, sum := range []uint32{0, 1, 0xcbf43926, math.MaxUint32} {
		if grain.More(sum, nil) != sum || grain.More(sum, []byte{}) != sum {
			t.Errorf("More(%x) of no bytes", sum)
		}
	}
}

// P1.17, example 8.
func TestJoin(t *testing.T) {
	if j, e := grain.Join(grain.CRC([]byte("1234")), grain.CRC([]byte("56789")), 5); j != 0xcbf43926 || e != api.OK {
		t.Errorf("Join: %x %v", j, e)
	}
	b := noise(3000)
	for n := range len(b) {
		if j, e := grain.Join(grain.CRC(b[:n]), grain.CRC(b[n:]), int64(len(b)-n)); j != grain.CRC(b) || e != api.OK {
			t.Fatalf("Join at %d: %x %v", n, j, e)
		}
	}
	d := dice()
	for n := range 600 {
		x, y := d.Uint32(), d.Uint32()
		if j, e := grain.Join(x, y, int64(n)); j != y^shifted(x, 8*n) || e != api.OK {
			t.Fatalf("Join(%x, %x, %d): %x %v", x, y, n, j, e)
		}
	}
}

// P1.17: the greatest lengths, and those that may not be.
func TestJoinOfGreatLengths(t *testing.T) {
	d := dice()
	for range 100 {
		a, n := d.Uint32(), d.Int64N(api.MaxJoin)
		two, e := grain.Join(a, 0, n)
		far, e2 := grain.Join(two, 0, api.MaxJoin-n)
		if at, e3 := grain.Join(a, 0, api.MaxJoin); at != far || e != api.OK || e2 != api.OK || e3 != api.OK {
			t.Errorf("Join over %d and the rest: %x, at once %x", n, far, at)
		}
	}
	// 2^32 - 1 shifts are none: so many registers there are beside 0, and the step goes through all of them.
	for _, a := range []uint32{1, 0x80000000, 0xdeadbeef} {
		if j, e := grain.Join(a, 7, 1<<32-1); j != a^7 || e != api.OK {
			t.Errorf("Join(%x) around: %x %v", a, j, e)
		}
	}
	for _, n := range []int64{-1, math.MinInt64, api.MaxJoin + 1, math.MaxInt64} {
		if j, e := grain.Join(1, 2, n); j != 0 || e != api.ErrFit {
			t.Errorf("Join of %d bytes: %x %v", n, j, e)
		}
	}
}

// P1.19: every change of one or two bits within 32, and many others.
func TestCRCTellsChangesWithin32Bits(t *testing.T) {
	whole, d := noise(24), dice()
	sum := grain.CRC(whole)
	changed := func(at int, pattern uint32) {
		b := bytes.Clone(whole)
		for i := range 32 {
			if pattern>>i&1 == 1 {
				b[(at+i)/8] ^= 1 << ((at + i) % 8)
			}
		}
		if grain.CRC(b) == sum {
			t.Fatalf("bits %x from %d on: not told", pattern, at)
		}
	}
	for at := range 24*8 - 31 {
		for i := range 32 {
			for j := range i + 1 {
				changed(at, 1<<i|1<<j)
			}
		}
		changed(at, math.MaxUint32)
		changed(at, 0xedb88320)
		changed(at, 0x04c11db7)
		for range 100 {
			changed(at, d.Uint32()|1)
		}
	}
}
