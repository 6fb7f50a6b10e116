package quay_test

import (
	"testing"

	"sluice/api"
)

// P8.2, records: each kind, and the chapter's example 1.
func TestRecords(t *testing.T) {
	first := numbers(0, 1)
	is(t, bin, plain, 3, "", nil, right())
	is(t, bin, plain, 3, first, list(edge(0, 1, 0)), right())
	is(t, bin, plain, 3, first+numbers(2, 7), list(edge(0, 1, 0)), api.Snag{Code: api.ErrNode, At: 12})
	is(t, bin, plain, 3, first+"\x00", list(edge(0, 1, 0)), api.Snag{Code: api.ErrRagged, At: 8})
	is(t, bin, plain, 3, numbers(2, 2, 1, 0, 0, 1), list(edge(2, 2, 0), edge(1, 0, 0), edge(0, 1, 0)), right())
	is(t, bin, counted, 3, numbers(2, 1, 5, 0, 0, 1<<32-5), list(edge(2, 1, 5), edge(0, 0, 1<<32-5)), right())
	is(t, bin, real, 3, numbers(2, 1, one, 0, 0, minus), list(edge(2, 1, one), edge(0, 0, minus)), right())
	is(t, bin, plain, 1<<24+3, "\x02\x00\x00\x01\x01\x02\x03\x00", list(edge(1<<24+2, 0x030201, 0)), right())
}

// P8.2, records: the lowest byte of each number stands first.
func TestRecordsBytes(t *testing.T) {
	is(t, bin, counted, api.MaxVertices, "\x01\x02\x03\x04\x05\x06\x07\x08\x09\x0a\x0b\x0c", list(edge(0x04030201, 0x08070605, 0x0c0b0a09)), right())
}

// P8.2, records: Src is looked at ahead of Dst, Dst ahead of W, a record ahead of those behind it, and of bytes that are no whole one.
func TestRecordsWrong(t *testing.T) {
	good := numbers(1, 2, half)
	for _, c := range []struct {
		k     api.EdgeKind
		tail  string
		wrong api.Errno
		at    int
	}{
		{real, numbers(3, 3, nan), api.ErrNode, 12},
		{real, numbers(0, 3, nan), api.ErrNode, 16},
		{real, numbers(0, 2, nan), api.ErrScale, 20},
		{real, numbers(3, 0, one), api.ErrNode, 12},
		{real, numbers(0, 0, infinite), api.ErrScale, 20},
		{real, numbers(0, 0, minus|infinite), api.ErrScale, 20},
		{real, numbers(0, 0, infinite+1), api.ErrScale, 20},
		{real, numbers(0, 0, 1<<32-1), api.ErrScale, 20},
		{counted, numbers(0, 0, nan)[:11], api.ErrRagged, 12},
		{counted, numbers(0, 9)[:8], api.ErrRagged, 12},
		{counted, "\xff", api.ErrRagged, 12},
		{counted, numbers(1<<32-1, 1<<32-1, 0), api.ErrNode, 12},
		{real, numbers(3, 0, 0) + numbers(0, 3, 0) + "\x01", api.ErrNode, 12},
		{real, numbers(0, 0, nan) + numbers(3, 3, 0), api.ErrScale, 20},
	} {
		is(t, bin, c.k, 3, good+c.tail, list(edge(1, 2, half)), api.Snag{Code: c.wrong, At: c.at})
	}
}

// P8.2, records: every cut of an input of whole records is told at the first byte behind them.
func TestRecordsCut(t *testing.T) {
	for _, k := range kinds() {
		width := map[api.EdgeKind]int{plain: 8, counted: 12, real: 12}[k]
		whole := numbers(0, 1, 2, 3, 0, 0, 2, 1, 3, 1, 1, 0)
		for cut := range len(whole) + 1 {
			want := right()
			if cut%width != 0 {
				want = api.Snag{Code: api.ErrRagged, At: cut - cut%width}
			}
			edges, snag := told(t, bin, k, 4, whole[:cut])
			if len(edges) != cut/width || snag != want {
				t.Errorf("kind %d, the first %d bytes: %d edges, %v", k, cut, len(edges), snag)
			}
		}
	}
}

// P8.2, records: a weight that may be, at the bounds of the finite numbers; of ECounted any.
func TestRecordsWeights(t *testing.T) {
	for _, w := range []uint32{0, 1, minus, minus | 1, greatest, minus | greatest, 0x00800000, 0x007fffff} {
		is(t, bin, real, 1, numbers(0, 0, w), list(edge(0, 0, w)), right())
	}
	for _, w := range []uint32{0, 1, 1<<31 - 1, 1 << 31, 1<<32 - 1, nan, infinite} {
		is(t, bin, counted, 1, numbers(0, 0, w), list(edge(0, 0, w)), right())
	}
}

// P8.2, records: the vertices at the greatest n.
func TestRecordsOfTheGreatestGraph(t *testing.T) {
	n := uint32(api.MaxVertices)
	is(t, bin, plain, n, numbers(n-1, 0), list(edge(n-1, 0, 0)), right())
	is(t, bin, plain, n, numbers(n, 0), nil, api.Snag{Code: api.ErrNode})
	is(t, bin, plain, n, numbers(0, n), nil, api.Snag{Code: api.ErrNode, At: 4})
}
