package loom

import (
	"math"

	"sluice/api"
	"sluice/grain"
	"sluice/tally"
)

const signBit = 1 << 31

// The float32 of these powers are exact: the first that is no int64, and the least that is one.
const (
	aboveInts = 0x1p63
	leastInt  = -0x1p63
)

// given is an instruction that pushes an int of the frame.
func given(name string, in hands, ask func(f *api.Frame) int64) row {
	return row{name, noArg, in, "", "i", func(m *machine, n int64) { m.push(uint64(ask(&m.frame))) }}
}

// twoInts is an instruction that makes one int of two.
func twoInts(name string, f func(x, y int64) (int64, api.Errno)) row {
	return row{name, noArg, everywhere, "ii", "i", func(m *machine, n int64) {
		y, x := m.popInt(), m.popInt()
		m.whole(f(x, y))
	}}
}

// oneReal is an instruction that makes a real of a real.
func oneReal(name string, f func(x float32) float32) row {
	return row{name, noArg, everywhere, "r", "r", func(m *machine, n int64) { m.real(f(m.popReal())) }}
}

// twoReals is an instruction that makes one real of two.
func twoReals(name string, f func(x, y float32) float32) row {
	return row{name, noArg, everywhere, "rr", "r", func(m *machine, n int64) {
		y, x := m.popReal(), m.popReal()
		m.real(f(x, y))
	}}
}

// testInts is an instruction that makes a bool of two ints.
func testInts(name string, f func(x, y int64) bool) row {
	return row{name, noArg, everywhere, "ii", "b", func(m *machine, n int64) {
		y, x := m.popInt(), m.popInt()
		m.push(truth(f(x, y)))
	}}
}

// testReals is an instruction that makes a bool of two reals.
func testReals(name string, f func(x, y float32) bool) row {
	return row{name, noArg, everywhere, "rr", "b", func(m *machine, n int64) {
		y, x := m.popReal(), m.popReal()
		m.push(truth(f(x, y)))
	}}
}

// twoBools is an instruction that makes one bool of two, which are 0 or 1.
func twoBools(name string, f func(x, y uint64) uint64) row {
	return row{name, noArg, everywhere, "bb", "b", func(m *machine, n int64) { m.push(f(m.pop(), m.pop())) }}
}

// truth is the word of a bool.
func truth(is bool) uint64 {
	if is {
		return 1
	}
	return 0
}

// atMost is a count as an int; what is beyond them is the greatest one.
func atMost(n uint64) int64 { return int64(min(n, math.MaxInt64)) }

func rank(x float32) int64 { return grain.Rank(grain.Bits(x)) }

// size is a number without its sign.
func size(x int64) (int64, api.Errno) {
	if x < 0 {
		return grain.Neg(x)
	}
	return x, api.OK
}

// cut is a real without what stands behind its point.
func cut(x float32) (int64, api.Errno) {
	if x < leastInt || x >= aboveInts {
		return 0, api.ErrBeyond
	}
	return int64(x), api.OK
}

// addTo puts a real to the exact sum in the first words.
func addTo(words []uint64, real uint64) {
	sum := tally.Put(tally.Sum(words[:api.TallyWords]), uint32(real))
	copy(words, sum[:])
}
