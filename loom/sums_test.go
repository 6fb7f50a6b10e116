package loom_test

import (
	"math"
	"testing"

	"sluice/api"
	"sluice/loom"
)

const most = 0x7f7fffff // the greatest float32

// lay puts six words of a sum into a state from at on.
func lay(s *api.State, at int, words [6]uint64) { copy(s[at:], words[:]) }

// The table: tally, total and clear of the state, in start: the sum begins with 0 whatever the frame has.
func TestStateSums(t *testing.T) {
	c := summed()
	for _, k := range []struct {
		list  string
		words [6]uint64
		told  uint64
		e     api.Errno
		steps int
	}{
		{"total 1, tostate 7, halt", [6]uint64{}, 0, api.OK, 3},
		{"real 0x3f800000, tally 1, total 1, tostate 7, halt", [6]uint64{2: 1 << 21}, 0x3f800000, api.OK, 5},
		{"real 0xbf800000, tally 1, total 1, tostate 7, halt", [6]uint64{0, 0, 1<<64 - 1<<21, 1<<64 - 1, 1<<64 - 1, 1<<64 - 1}, 0xbf800000, api.OK, 5},
		{"real 1, tally 1, total 1, tostate 7, halt", [6]uint64{1}, 1, api.OK, 5},
		{"real 0x80000000, tally 1, total 1, tostate 7, halt", [6]uint64{}, 0, api.OK, 5},
		{"real 0x7f800000, tally 1, real 0xff800000, tally 1, real 1, tally 1, total 1, tostate 7, halt", [6]uint64{1}, 1, api.OK, 9},
		{"real 0x7149f2ca, tally 1, real 0x3f800000, tally 1, real 0xf149f2ca, tally 1, total 1, tostate 7, halt", [6]uint64{2: 1 << 21}, 0x3f800000, api.OK, 9},
		{"real 0x3f800000, tally 1, clear 1, total 1, tostate 7, halt", [6]uint64{}, 0, api.OK, 6},
		{"real 0x7f7fffff, tally 1, real 0x7f7fffff, tally 1, total 1, tostate 7, halt", [6]uint64{}, 0, api.ErrTrapReal, 5},
		{"real 0xff7fffff, tally 1, real 0xff7fffff, tally 1, total 1, tostate 7, halt", [6]uint64{}, 0, api.ErrTrapReal, 5},
		// Half of the last place beyond the greatest is beyond it; a little less is not.
		{"real 0x7f7fffff, tally 1, real 0x73000000, tally 1, total 1, tostate 7, halt", [6]uint64{}, 0, api.ErrTrapReal, 5},
		{"real 0x7f7fffff, tally 1, real 0x72ffffff, tally 1, total 1, tostate 7, halt", [6]uint64{0, 0, 0, 0, 1<<52 - 1<<52, 0}, most, api.OK, 7},
		// Ties go to even.
		{"real 0x4b800000, tally 1, real 0x3f800000, tally 1, total 1, tostate 7, halt", [6]uint64{2: 1<<45 + 1<<21}, 0x4b800000, api.OK, 7},
		{"real 0x4b800000, tally 1, real 0x40400000, tally 1, total 1, tostate 7, halt", [6]uint64{2: 1<<45 + 3<<21}, 0x4b800002, api.OK, 7},
	} {
		code := with(c, 0, assembled(t, k.list)...)
		taken(t, code)
		x, n, e := loom.Run(code, 0, full, 99)
		if e != k.e || n != k.steps || x.State[7] != k.told {
			t.Errorf("%s: %x, %d, %d", k.list, x.State, n, e)
		}
		want := api.State{7: k.told}
		lay(&want, 1, k.words)
		if k.e == api.OK && k.told != most && x.State != want || k.e != api.OK && x != (api.Effect{}) {
			t.Errorf("%s: %v, not %v", k.list, x, want)
		}
	}
}

// The table: sums in all handlers that have them, from what stands in the frame.
func TestSumsElsewhere(t *testing.T) {
	c := summed()
	c.Hands[1] = assembled(t, "total 1, dup, bool 1, halt")
	c.Hands[2] = assembled(t, "total 1, aggtotal 2, addf, tostate 7, real 0x3f800000, tally 1, bool 1, halt")
	c.Hands[3] = assembled(t, "total 1, aggtally 2, aggtotal 2, aggtally 2, halt")
	c.Hands[4] = assembled(t, "aggtotal 2, toctl 0, bool 0, halt")
	taken(t, c)
	f := full
	lay(&f.State, 1, [6]uint64{2: 3 << 20}) // 1.5
	lay(&f.Agg, 2, [6]uint64{2: 1 << 21})   // 1
	ran(t, "scatter", c, 1, f, 99, api.Effect{A: 0x3fc00000, B: 0x3fc00000, Flag: true}, 4, api.OK)
	ran(t, "apply", c, 2, f, 99, api.Effect{State: api.State{11, 0, 0, 5 << 20, 0, 0, 0, 0x40200000}, Flag: true}, 8, api.OK)
	ran(t, "fold", c, 3, f, 99, api.Effect{Agg: api.State{21, 22, 0, 0, 5 << 21, 0, 0, 0}}, 5, api.OK)
	ran(t, "turn", c, 4, f, 99, api.Effect{Ctl: api.Ctl{0x3f800000, 32, 33, 34}}, 4, api.OK)
	lay(&f.State, 1, [6]uint64{5: 1})
	lay(&f.Agg, 2, [6]uint64{5: 1 << 63})
	for hand, n := range []int{1: 1, 2: 1, 3: 1, 4: 1} {
		if hand > 0 {
			ran(t, hand, c, hand, f, 99, api.Effect{}, n, api.ErrTrapReal)
		}
	}
	c.Hands[2] = assembled(t, "clear 1, total 1, tostate 7, bool 0, halt")
	ran(t, "clear", c, 2, f, 99, api.Effect{State: api.State{0: 11}}, 5, api.OK)
	// What goes around: all is modulo 2^384.
	c.Hands[2] = assembled(t, "real 1, tally 1, bool 0, halt")
	lay(&f.State, 1, [6]uint64{1<<64 - 1, 1<<64 - 1, 1<<64 - 1, 1<<64 - 1, 1<<64 - 1, 1<<63 - 1})
	ran(t, "around", c, 2, f, 99, api.Effect{State: api.State{11, 0, 0, 0, 0, 0, 1 << 63, 18}}, 4, api.OK)
}

// The table: any words of a sum, any reals, against numbers of any size.
func TestAnySums(t *testing.T) {
	roll := dice(4)
	c := summed()
	for range 2000 {
		var words [6]uint64
		for i := range words {
			if roll.IntN(2) == 0 {
				words[i] = roll.Uint64() >> roll.IntN(64)
			}
		}
		if roll.IntN(3) > 0 {
			words[5], words[4] = 0, words[4]>>43
		}
		bits := realBits[roll.IntN(len(realBits))]
		if roll.IntN(2) == 0 {
			bits = math.Float32bits(float32(roll.NormFloat64()))
		}
		f := full
		lay(&f.State, 1, words)
		put(words[:], bits)
		told, e := rounded(words[:])
		c.Hands[2] = []api.Ins{op(api.OpReal, int64(bits)), op(api.OpTally, 1), op(api.OpTotal, 1), op(api.OpToState, 7), op(api.OpBool), halt}
		want, steps := api.Effect{}, 3
		if e == api.OK {
			want.State, steps = f.State, 6
			lay(&want.State, 1, words)
			want.State[7] = told.word()
		}
		ran(t, words, c, 2, f, 99, want, steps, e)
	}
}
