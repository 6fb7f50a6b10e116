package ranks_test

import (
	"math"
	"math/rand/v2"
	"testing"

	"sluice/ranks"
)

// P15.1: Mix, against numbers that are known and a second reading, at the ends of seeds and vertices.
func TestMix(t *testing.T) {
	for v, want := range []uint64{0xe220a8397b1dcdaf, 0x6e789e6aa1b965f4, 0x06c45d188009454f, 0xf88bb8a8724c81ec} {
		if got := ranks.Mix(0, uint32(v)); got != want {
			t.Errorf("P15.1: Mix(0, %d): %x", v, got)
		}
	}
	for v, want := range []uint64{6457827717110365317, 3203168211198807973, 9817491932198370423, 4593380528125082431, 16408922859458223821} {
		if got := ranks.Mix(1234567, uint32(v)); got != want {
			t.Errorf("P15.1: Mix(1234567, %d): %d", v, got)
		}
	}
	rnd := rand.New(rand.NewPCG(1, 152))
	seeds := []uint64{0, 1, 2, 1<<31 - 1, 1 << 31, math.MaxUint32, 1 << 32, 1<<63 - 1, 1 << 63, none - 1, none, none - 0x9e3779b97f4a7c15 + 1}
	vertices := []uint32{0, 1, 2, 1<<31 - 2, 1<<31 - 1, 1 << 31, math.MaxUint32 - 1, math.MaxUint32}
	for range 300 {
		seeds = append(seeds, rnd.Uint64()>>rnd.IntN(64))
		vertices = append(vertices, rnd.Uint32()>>rnd.IntN(32))
	}
	for _, seed := range seeds[:40] {
		for _, v := range vertices[:40] {
			mixedRight(t, seed, v)
		}
	}
	for i := range seeds[:len(vertices)] {
		mixedRight(t, seeds[i], vertices[i])
	}
}

// mixedRight holds Mix, Unit and Inside against the chapter.
func mixedRight(t *testing.T, seed uint64, v uint32) {
	t.Helper()
	z := mixed(seed, v)
	unit := math.Float32bits(float32(math.Ldexp(float64(z>>40), -24)))
	if ranks.Mix(seed, v) != z || ranks.Unit(seed, v) != unit || ranks.Inside(seed, v) != (z%2 == 1) {
		t.Fatalf("P15.1: %d, %d: %x %x %v, want %x %x", seed, v, ranks.Mix(seed, v), ranks.Unit(seed, v), ranks.Inside(seed, v), z, unit)
	}
}

// P15.1: Unit and Inside at the ends of what Mix answers.
func TestUnitAndInside(t *testing.T) {
	for _, v := range []uint32{0, 1, 77, 1<<31 - 2, math.MaxUint32} {
		for _, row := range []struct {
			mix    uint64
			unit   uint32
			inside bool
		}{
			{0, 0, false}, {1, 0, true}, {1<<40 - 1, 0, true}, {1 << 40, 0x33800000, false}, {3<<40 | 1, 0x34400000, true},
			{1<<40 | 1<<39, 0x33800000, false}, {1 << 63, 0x3f000000, false}, {1<<63 - 1, 0x3efffffe, true}, {1<<63 - 2, 0x3efffffe, false},
			{none, 0x3f7fffff, true}, {none - 1, 0x3f7fffff, false}, {none - (1<<40 - 1), 0x3f7fffff, false}, {none - (1<<41 - 1) + 1, 0x3f7ffffe, true},
		} {
			seed := seedFor(row.mix, v)
			if ranks.Mix(seed, v) != row.mix || ranks.Unit(seed, v) != row.unit || ranks.Inside(seed, v) != row.inside {
				t.Errorf("P15.1: %x at %d: %x %x %v, want %x %v", row.mix, v, ranks.Mix(seed, v), ranks.Unit(seed, v), ranks.Inside(seed, v), row.unit, row.inside)
			}
		}
	}
}
