package grain_test

import (
	"bytes"
	"math"
	"math/rand/v2"
	"testing"

	"sluice/api"
	"sluice/grain"
)

// dice gives the same numbers at every run.
func dice() *rand.Rand { return rand.New(rand.NewPCG(1, 2)) }

// places are offsets that no number fits at in a list of four bytes, whatever its width.
var places = []int{-1, -8, 4, 5, 1 << 40, math.MinInt, math.MinInt + 1, math.MaxInt - 8, math.MaxInt - 1, math.MaxInt}

var wrongWidths = []int{0, -1, 9, 16, 64, 1 << 40, math.MinInt, math.MaxInt}

// P1.1, example 1.
func TestPutLaysTheLowestByteFirst(t *testing.T) {
	for _, x := range []struct {
		at, width int
		v         uint64
		want      []byte
	}{
		{1, 2, 513, []byte{9, 1, 2, 9, 9, 9, 9, 9, 9}},
		{0, 1, 255, []byte{255, 9, 9, 9, 9, 9, 9, 9, 9}},
		{8, 1, 0, []byte{9, 9, 9, 9, 9, 9, 9, 9, 0}},
		{2, 3, 0xfffffe, []byte{9, 9, 0xfe, 0xff, 0xff, 9, 9, 9, 9}},
		{1, 8, 0x0102030405060708, []byte{9, 8, 7, 6, 5, 4, 3, 2, 1}},
		{0, 8, math.MaxUint64, []byte{255, 255, 255, 255, 255, 255, 255, 255, 9}},
		{0, 7, 1<<56 - 1, []byte{255, 255, 255, 255, 255, 255, 255, 9, 9}},
	} {
		b := bytes.Repeat([]byte{9}, 9)
		if e := grain.Put(b, x.at, x.width, x.v); e != api.OK || !bytes.Equal(b, x.want) {
			t.Errorf("Put(%d, %d, %d): %v %v", x.at, x.width, x.v, b, e)
		}
		if v, e := grain.Get(b, x.at, x.width); v != x.v || e != api.OK {
			t.Errorf("Get(%d, %d): %d %v", x.at, x.width, v, e)
		}
	}
}

// P1.1: the errors, and which one comes first; with one nothing has changed.
func TestPutRefuses(t *testing.T) {
	whole := []byte{1, 2, 3, 4, 5, 6}
	b := whole[:4] // spare room is no room
	refuse := func(at, width int, v uint64, want api.Errno) {
		t.Helper()
		if e := grain.Put(b, at, width, v); e != want || !bytes.Equal(whole, []byte{1, 2, 3, 4, 5, 6}) {
			t.Errorf("Put(%d, %d, %d): %v, bytes %v", at, width, v, e, whole)
		}
	}
	for _, width := range wrongWidths {
		refuse(0, width, 0, api.ErrWidth)
		refuse(-1, width, math.MaxUint64, api.ErrWidth)
	}
	for width := 1; width <= 8; width++ {
		for _, at := range places {
			refuse(at, width, 0, api.ErrShort)
			refuse(at, width, math.MaxUint64, api.ErrShort)
		}
		refuse(4-width+1, width, 0, api.ErrShort)
	}
	for width := 1; width <= 4; width++ {
		refuse(0, width, 1<<(8*width), api.ErrFit)
		refuse(4-width, width, math.MaxUint64, api.ErrFit)
	}
	refuse(0, 1, 256, api.ErrFit)
	for _, none := range [][]byte{nil, {}} {
		if e := grain.Put(none, 0, 1, 0); e != api.ErrShort {
			t.Errorf("Put into nothing: %v", e)
		}
	}
}

// P1.2, example 1.
func TestGet(t *testing.T) {
	b := []byte{1, 2, 3, 4, 5}[:4]
	for width := 1; width <= 4; width++ {
		for at := 0; at+width <= 4; at++ {
			var want uint64
			for i := width - 1; i >= 0; i-- {
				want = want*256 + uint64(b[at+i])
			}
			if v, e := grain.Get(b, at, width); v != want || e != api.OK {
				t.Errorf("Get(%d, %d): %d %v", at, width, v, e)
			}
		}
	}
	if v, e := grain.Get([]byte{1, 2, 3}, 2, 2); v != 0 || e != api.ErrShort {
		t.Errorf("Get: %d %v", v, e)
	}
}

// P1.2, P1.3: the errors of the two that read.
func TestGetAndGetIntRefuse(t *testing.T) {
	b := []byte{255, 255, 255, 255, 255, 255}[:4]
	refuse := func(b []byte, at, width int, want api.Errno) {
		t.Helper()
		if v, e := grain.Get(b, at, width); v != 0 || e != want {
			t.Errorf("Get(%d, %d): %d %v", at, width, v, e)
		}
		if v, e := grain.GetInt(b, at, width); v != 0 || e != want {
			t.Errorf("GetInt(%d, %d): %d %v", at, width, v, e)
		}
	}
	for _, width := range wrongWidths {
		refuse(b, 0, width, api.ErrWidth)
		refuse(b, -1, width, api.ErrWidth)
		refuse(nil, 0, width, api.ErrWidth)
	}
	for width := 1; width <= 8; width++ {
		for _, at := range places {
			refuse(b, at, width, api.ErrShort)
		}
		refuse(b, 4-width+1, width, api.ErrShort)
		refuse(nil, 0, width, api.ErrShort)
		refuse([]byte{}, 0, width, api.ErrShort)
	}
}

// P1.3: two's complement, to its edges at every width.
func TestNumbersWithASign(t *testing.T) {
	for width := 1; width <= 8; width++ {
		least := int64(-1) << (8*width - 1)
		for _, v := range []int64{least, least + 1, -2, -1, 0, 1, -2 - least, -1 - least} {
			b := bytes.Repeat([]byte{9}, 10)
			if e := grain.PutInt(b, 1, width, v); e != api.OK {
				t.Errorf("PutInt(%d) of %d bytes: %v", v, width, e)
			}
			for i := range 10 {
				want := byte(9)
				if i >= 1 && i <= width {
					want = byte(v >> (8 * (i - 1)))
				}
				if b[i] != want {
					t.Errorf("PutInt(%d) of %d bytes: %v", v, width, b)
				}
			}
			if got, e := grain.GetInt(b, 1, width); got != v || e != api.OK {
				t.Errorf("GetInt of %d, %d bytes: %d %v", v, width, got, e)
			}
		}
	}
	if v, e := grain.GetInt([]byte{255}, 0, 1); v != -1 || e != api.OK {
		t.Errorf("GetInt: %d %v", v, e)
	}
	if v, e := grain.GetInt([]byte{0x7f, 0x80}, 0, 2); v != -0x7f81 || e != api.OK {
		t.Errorf("GetInt: %d %v", v, e)
	}
}

// P1.3: the errors of PutInt, and which one comes first.
func TestPutIntRefuses(t *testing.T) {
	whole := []byte{1, 2, 3, 4, 5, 6, 7, 8, 9}
	b := whole[:7]
	refuse := func(at, width int, v int64, want api.Errno) {
		t.Helper()
		if e := grain.PutInt(b, at, width, v); e != want || !bytes.Equal(whole, []byte{1, 2, 3, 4, 5, 6, 7, 8, 9}) {
			t.Errorf("PutInt(%d, %d, %d): %v, bytes %v", at, width, v, e, whole)
		}
	}
	for _, width := range wrongWidths {
		refuse(0, width, 0, api.ErrWidth)
		refuse(-1, width, math.MinInt64, api.ErrWidth)
	}
	for width := 1; width <= 7; width++ {
		for _, at := range []int{-1, 8 - width, 8, math.MinInt, math.MaxInt} {
			refuse(at, width, 0, api.ErrShort)
			refuse(at, width, math.MinInt64, api.ErrShort)
		}
		half := int64(1) << (8*width - 1)
		for _, v := range []int64{half, -half - 1, math.MaxInt64, math.MinInt64} {
			refuse(7-width, width, v, api.ErrFit)
		}
	}
	refuse(0, 8, math.MaxInt64, api.ErrShort)
	if e := grain.PutInt(nil, 0, 1, 0); e != api.ErrShort {
		t.Errorf("PutInt into nothing: %v", e)
	}
}
