package loom_test

import (
	"math"
	"slices"
	"testing"

	"sluice/api"
	"sluice/loom"
)

// ran runs a handler of a code and holds all answers against what is wanted.
func ran(t *testing.T, what any, c api.Code, hand int, f api.Frame, fuel int, x api.Effect, n int, e api.Errno) {
	t.Helper()
	if gotX, gotN, gotE := loom.Run(c, hand, f, fuel); gotX != x || gotN != n || gotE != e {
		t.Errorf("%v: %v, %d, %d, not %v, %d, %d", what, gotX, gotN, gotE, x, n, e)
	}
}

// P11.2, P11.3: the chapter's examples.
func TestExamples(t *testing.T) {
	c, e, line := loom.Parse(bfs)
	if e != api.OK || line != 0 {
		t.Fatalf("%d at %d", e, line)
	}
	taken(t, c)
	ran(t, "vertex 0", c, api.HandStart, api.Frame{State: api.State{9, 9}}, 100, api.Effect{}, 8, api.OK)
	ran(t, "vertex 4", c, api.HandStart, api.Frame{Vertex: 4}, 100, api.Effect{State: api.State{1000000}}, 7, api.OK)
	ran(t, "scatter", c, api.HandScatter, api.Frame{State: api.State{6}}, 100, api.Effect{A: 7, Flag: true}, 7, api.OK)
	ran(t, "scatter of what was not reached", c, api.HandScatter, api.Frame{State: api.State{1000000}}, 100, api.Effect{A: 1000001}, 7, api.OK)
	ran(t, "beyond int64", with(c, 3, assembled(t, "int 9223372036854775807, int 1, addi, drop, halt")...), 3, api.Frame{}, 100, api.Effect{}, 3, api.ErrTrapInt)
	ran(t, "0 by 0", with(c, 3, assembled(t, "real 0, real 0, quof, drop, halt")...), 3, api.Frame{}, 100, api.Effect{}, 3, api.ErrTrapReal)
	ring := with(c, 3, op(api.OpJump, 0))
	taken(t, ring)
	ran(t, "a ring", ring, 3, api.Frame{}, 5, api.Effect{}, 5, api.ErrFuel)
	refused(t, "an empty stack", with(c, 1, assembled(t, "addi, state 0, bool 1, halt")...), 1, 0)
	refused(t, "off the end", with(c, 3, assembled(t, "bool 1, jumpif 0")...), 3, 2)
	refused(t, "a local of two kinds", with(c, 4, assembled(t, "bool 1, jumpif 5, int 1, set 0, jump 7, real 1, set 0, get 0, halt")...), 4, 7)
}

// P11.3: hands and fuel that may not be, ahead of a code that may not.
func TestRunArguments(t *testing.T) {
	wrong := mixed()
	wrong.Words = 0
	for _, c := range []api.Code{mixed(), wrong, {}} {
		for _, hand := range []int{-1, -2, 5, 6, math.MaxInt, math.MinInt} {
			for _, fuel := range []int{0, 5, api.MaxFuel, -1} {
				ran(t, hand, c, hand, api.Frame{}, fuel, api.Effect{}, 0, api.ErrArg)
			}
		}
		for hand := range api.Hands {
			for _, fuel := range []int{-1, -2, api.MaxFuel + 1, math.MaxInt, math.MinInt} {
				ran(t, fuel, c, hand, api.Frame{}, fuel, api.Effect{}, 0, api.ErrArg)
			}
		}
	}
	for hand := range api.Hands {
		ran(t, "wrong", wrong, hand, api.Frame{}, 5, api.Effect{}, 0, api.ErrCode)
		ran(t, "empty", api.Code{}, hand, api.Frame{}, 0, api.Effect{}, 0, api.ErrCode)
		// A fault of any handler is one of the code.
		for other := range api.Hands {
			ran(t, other, with(mixed(), other, op(api.OpDrop)), hand, api.Frame{}, 5, api.Effect{}, 0, api.ErrCode)
		}
	}
	ran(t, "most fuel", small(), 3, api.Frame{}, api.MaxFuel, api.Effect{}, 1, api.OK)
}

// P11.3: steps and fuel at each end of a run: halt, trap, the want of fuel; with one step fewer, with just as many, with more.
func TestFuel(t *testing.T) {
	for _, c := range []struct {
		list  string
		steps int
		end   api.Errno
		agg   uint64
	}{
		{"halt", 1, api.OK, 0},
		{"int 5, toagg 1, halt", 3, api.OK, 5},
		{"int 5, toagg 1, jump 4, halt, bool 0, jumpif 3, halt", 6, api.OK, 5},
		{"int 5, toagg 1, int 1, int 0, quoi, toagg 1, halt", 5, api.ErrTrapZero, 0},
		{"int 5, toagg 1, int 1, int 0, remi, toagg 1, halt", 5, api.ErrTrapZero, 0},
		{"int -9223372036854775808, negi, toagg 1, halt", 2, api.ErrTrapInt, 0},
		{"agg 2, drop, halt", 1, api.ErrTrapReal, 0},
	} {
		code := with(mixed(), api.HandFold, assembled(t, c.list)...)
		f := api.Frame{Agg: api.State{2: 0x7fc00000}}
		for fuel := range 12 {
			if fuel < c.steps {
				ran(t, c.list, code, api.HandFold, f, fuel, api.Effect{}, fuel, api.ErrFuel)
				continue
			}
			want := api.Effect{}
			if c.end == api.OK {
				want.Agg = f.Agg
				want.Agg[1] = c.agg
			}
			ran(t, c.list, code, api.HandFold, f, fuel, want, c.steps, c.end)
		}
	}
	ring := with(small(), 0, assembled(t, "state 0, int 1, addi, tostate 0, jump 0")...)
	for _, fuel := range []int{0, 1, 2, 4, 5, 6, 999, api.MaxFuel - 1, api.MaxFuel} {
		ran(t, fuel, ring, 0, api.Frame{}, fuel, api.Effect{}, fuel, api.ErrFuel)
	}
	// A run that halts with its last step of MaxFuel: 2 + 9n + 4 + 1 steps, by n rounds.
	count := with(small(), 3, assembled(t, "int 116507, set 0, get 0, int 0, lei, jumpif 11, get 0, int 1, subi, set 0, jump 2, halt")...)
	taken(t, count)
	ran(t, "long", count, 3, api.Frame{}, 9*116507+7, api.Effect{}, 9*116507+7, api.OK)
	ran(t, "long, one fewer", count, 3, api.Frame{}, 9*116507+6, api.Effect{}, 9*116507+6, api.ErrFuel)
	ran(t, "longer", with(count, 3, append([]api.Ins{op(api.OpInt, 116508)}, count.Hands[3][1:]...)...), 3, api.Frame{}, api.MaxFuel, api.Effect{}, api.MaxFuel, api.ErrFuel)
}

var full = api.Frame{
	State: api.State{11, 12, 13, 14, 15, 16, 17, 18}, Agg: api.State{21, 22, 23, 24, 25, 26, 27, 28}, Ctl: api.Ctl{31, 32, 33, 34},
	Vertex: 41, Degrees: api.Degrees{Out: 42, In: 43}, Edge: api.Edge{Src: 44, Dst: 45, W: 46}, Back: true, Changed: 47, Round: 48,
}

// The machine, P11.3: what each handler leaves, and that all else is zero.
func TestEffects(t *testing.T) {
	c := mixed() // five words of state
	ran(t, "start", c, 0, full, 9, api.Effect{}, 1, api.OK)
	ran(t, "scatter", c, 1, full, 9, api.Effect{A: 1, B: 7, Flag: true}, 4, api.OK)
	ran(t, "apply", c, 2, full, 9, api.Effect{State: api.State{11, 12, 13, 14, 15}}, 2, api.OK)
	ran(t, "fold", c, 3, full, 9, api.Effect{Agg: full.Agg}, 1, api.OK)
	ran(t, "turn", c, 4, full, 9, api.Effect{Ctl: full.Ctl, Flag: true}, 2, api.OK)
	for hand, list := range []string{
		"int -3, tostate 4, bool 1, tostate 2, state 0, int 1, addi, tostate 0, halt",
		"bool 0, state 4, bool 0, halt",
		"int -3, tostate 4, bool 0, tostate 3, bool 1, halt",
		"vertex, toagg 1, agg 3, toagg 3, state 0, toagg 5, halt",
		"round, toctl 3, bool 0, toctl 2, bool 0, halt",
	} {
		c.Hands[hand] = assembled(t, list)
	}
	minus := uint64(1<<64 - 3)
	ran(t, "start", c, 0, full, 99, api.Effect{State: api.State{0: 1, 2: 1, 4: minus}}, 9, api.OK)
	ran(t, "scatter", c, 1, full, 99, api.Effect{B: 15}, 4, api.OK)
	ran(t, "apply", c, 2, full, 99, api.Effect{State: api.State{11, 12, 13, 0, minus}, Flag: true}, 6, api.OK)
	ran(t, "fold", c, 3, full, 99, api.Effect{Agg: api.State{21, 41, 23, 1, 25, 11, 27, 28}}, 7, api.OK)
	ran(t, "turn", c, 4, full, 99, api.Effect{Ctl: api.Ctl{31, 32, 0, 48}}, 6, api.OK)
	one := small() // a message of one word
	ran(t, "scatter", one, 1, full, 9, api.Effect{A: 7, Flag: true}, 3, api.OK)
	two := summed()
	two.Hands[1] = assembled(t, "real 0x80000000, real 0x7f800000, bool 0, halt")
	ran(t, "scatter", two, 1, full, 9, api.Effect{A: 0x80000000, B: 0x7f800000}, 4, api.OK)
	ran(t, "apply of eight words", two, 2, full, 9, api.Effect{State: full.State}, 2, api.OK)
}

// The machine: words are read and written by their kinds, whatever stands in a Frame.
func TestWordsByKinds(t *testing.T) {
	c := mixed()
	// Each word of the state is read and written back.
	c.Hands[2] = assembled(t, "state 0, tostate 0, state 1, tostate 1, state 2, tostate 2, state 3, tostate 3, state 4, tostate 4, bool 0, halt")
	f := api.Frame{State: api.State{1<<64 - 1, 0xdeadbeef80000000, 7, 1 << 63, 1 << 63, 3, 3, 3}}
	ran(t, "state", c, 2, f, 99, api.Effect{State: api.State{1<<64 - 1, 0x80000000, 1, 1, 1 << 63}}, 12, api.OK)
	c.Hands[3] = assembled(t, "agg 1, toagg 1, agg 2, toagg 2, agg 3, toagg 3, agg 5, toagg 5, agg 7, toagg 7, halt")
	f = api.Frame{Agg: api.State{5, 5, 1<<32 | 0x7f800000, 2, 5, 1<<64 - 1, 5, 1<<63 | 1}}
	ran(t, "agg", c, 3, f, 99, api.Effect{Agg: api.State{5, 5, 0x7f800000, 1, 5, 1<<64 - 1, 5, 1}}, 11, api.OK)
	c.Hands[4] = assembled(t, "ctl 0, toctl 0, ctl 2, toctl 2, ctl 3, toctl 3, bool 0, halt")
	f = api.Frame{Ctl: api.Ctl{1<<63 | 0xff800000, 9, 1 << 40, 6}}
	ran(t, "ctl", c, 4, f, 99, api.Effect{Ctl: api.Ctl{0xff800000, 9, 1, 6}}, 8, api.OK)
	// What is a NaN in its low 32 bits traps, and what is none does not, whatever stands above; an int or a bool that would be one is none.
	for _, bits := range nans {
		for _, above := range []uint64{0, 1 << 63, 0x3f800000 << 32} {
			word := above | uint64(bits)
			nan := api.Frame{State: api.State{1: word}, Agg: api.State{2: word, 7: word}, Ctl: api.Ctl{word}}
			ran(t, bits, c, 2, nan, 99, api.Effect{}, 3, api.ErrTrapReal)
			ran(t, bits, c, 3, nan, 99, api.Effect{}, 3, api.ErrTrapReal)
			ran(t, bits, c, 4, nan, 99, api.Effect{}, 1, api.ErrTrapReal)
			ran(t, bits, c, 2, api.Frame{State: api.State{word, 0, word, 0, word}}, 99, api.Effect{State: api.State{word, 0, 1, 0, word}}, 12, api.OK)
			// Where it is only carried along nothing is read.
			ran(t, bits, mixed(), 2, nan, 99, api.Effect{State: api.State{1: word}}, 2, api.OK)
			ran(t, bits, mixed(), 3, nan, 99, api.Effect{Agg: nan.Agg}, 1, api.OK)
			ran(t, bits, mixed(), 4, nan, 99, api.Effect{Ctl: nan.Ctl, Flag: true}, 2, api.OK)
		}
	}
	for _, bits := range realBits {
		word := uint64(bits) | 0x7fc00000<<32
		ran(t, bits, c, 2, api.Frame{State: api.State{1: word}}, 99, api.Effect{State: api.State{1: uint64(bits)}}, 12, api.OK)
	}
}

// sent runs instructions that leave a word of a kind, in scatter.
func sent(t *testing.T, kind api.WordKind, f api.Frame, list ...api.Ins) (uint64, int, api.Errno) {
	t.Helper()
	c := plain(api.Code{Words: 8, State: [8]api.WordKind{int_, real, bool_, int_, int_, int_, int_, int_}, Ctl: [4]api.WordKind{int_, real, bool_, int_}, MsgA: kind})
	c.Hands[1] = append(slices.Clone(list), op(api.OpBool, 1), halt)
	taken(t, c)
	x, n, e := loom.Run(c, 1, f, 1000)
	return x.A, n, e
}

// The table: what is given in scatter.
func TestGivenInScatter(t *testing.T) {
	for _, w := range []uint32{0, 1, 46, 1<<31 - 1, 1 << 31, 1<<32 - 1, 0x3f800000, 0x7f800000} {
		for _, back := range []bool{false, true} {
			f := full
			f.Edge, f.Back = api.Edge{Src: w, Dst: ^w, W: w}, back
			isBack := uint64(0)
			if back {
				isBack = 1
			}
			for _, c := range []struct {
				o    int
				kind api.WordKind
				want uint64
			}{{api.OpSrc, int_, uint64(w)}, {api.OpDst, int_, uint64(^w)}, {api.OpWeight, int_, uint64(int64(int32(w)))}, {api.OpBack, bool_, isBack}} {
				if got, n, e := sent(t, c.kind, f, op(c.o)); got != c.want || n != 3 || e != api.OK {
					t.Errorf("op %d of %x: %x, %d, %d", c.o, w, got, n, e)
				}
			}
			got, n, e := sent(t, real, f, op(api.OpRealWeight))
			if w&0x7fffffff > 0x7f800000 {
				if got != 0 || n != 1 || e != api.ErrTrapReal {
					t.Errorf("a NaN's weight: %x, %d, %d", got, n, e)
				}
			} else if got != uint64(w) || n != 3 || e != api.OK {
				t.Errorf("real weight %x: %x, %d, %d", w, got, n, e)
			}
		}
	}
	for _, bits := range nans {
		if _, n, e := sent(t, real, api.Frame{Edge: api.Edge{W: bits}}, op(api.OpRealWeight)); n != 1 || e != api.ErrTrapReal {
			t.Errorf("%x: %d, %d", bits, n, e)
		}
	}
}

// The table: what is given elsewhere; counts beyond int64 are its greatest.
func TestGivenElsewhere(t *testing.T) {
	c := plain(api.Code{Words: 3, State: [8]api.WordKind{int_, int_, int_}, Agg: [8]api.WordKind{int_}, Ctl: [4]api.WordKind{int_, int_}, MsgA: int_})
	c.Hands[0] = assembled(t, "vertex, tostate 0, outdeg, tostate 1, indeg, tostate 2, halt")
	c.Hands[2] = assembled(t, "vertex, tostate 0, bool 0, halt")
	c.Hands[3] = assembled(t, "vertex, toagg 0, halt")
	c.Hands[4] = assembled(t, "changed, toctl 0, round, toctl 1, bool 0, halt")
	const most = math.MaxInt64
	for _, n := range []struct{ is, told uint64 }{{0, 0}, {1, 1}, {1<<32 + 5, 1<<32 + 5}, {most - 1, most - 1}, {most, most}, {most + 1, most}, {1<<64 - 1, most}} {
		v := uint32(n.is)
		f := api.Frame{Vertex: v, Degrees: api.Degrees{Out: n.is, In: n.is / 2}, Changed: n.is, Round: int(n.is)}
		ran(t, n, c, 0, f, 99, api.Effect{State: api.State{uint64(v), n.told, n.is / 2}}, 7, api.OK)
		f.Degrees = api.Degrees{Out: n.is / 2, In: n.is}
		ran(t, n, c, 0, f, 99, api.Effect{State: api.State{uint64(v), n.is / 2, n.told}}, 7, api.OK)
		ran(t, n, c, 2, f, 99, api.Effect{State: api.State{uint64(v)}}, 4, api.OK)
		ran(t, n, c, 3, f, 99, api.Effect{Agg: api.State{uint64(v)}}, 3, api.OK)
		ran(t, n, c, 4, f, 99, api.Effect{Ctl: api.Ctl{n.told, n.is}}, 6, api.OK)
	}
	ran(t, "a round below 0", c, 4, api.Frame{Round: math.MinInt}, 99, api.Effect{Ctl: api.Ctl{0, 1 << 63}}, 6, api.OK)
}

// The table: stack and locals; a word goes over with its kind.
func TestStack(t *testing.T) {
	for _, c := range []struct {
		list string
		want uint64
	}{
		{"int 5, int 3, subi", 2},
		{"int 5, int 3, swap, subi", 1<<64 - 2},
		{"int 5, dup, muli", 25},
		{"int 5, int 3, drop", 5},
		{"int 5, int 3, pick 1, subi, subi", 7},
		{"int 5, int 3, pick 0, subi, subi", 5},
		{"int 1, int 2, int 3, int 4, pick 3, set 0, drop, drop, drop, drop, get 0", 1},
		{"bool 1, int 9, swap, jumpif 6, drop, int 8, int 1, addi", 10},
		{"real 0x40400000, set 7, int 4, set 0, bool 1, set 7, get 0", 4},
		{"jump 2, int 5, int 6", 6},
		{"bool 1, jumpif 3, halt, int 6", 6},
		{"bool 0, jumpunless 3, halt, int 6", 6},
		{"bool 0, jumpif 5, int 7, jump 6, halt, int 6, negi, negi", 7},
		{"bool 1, jumpunless 5, int 7, jump 6, halt, int 6, negi, negi", 7},
	} {
		list := assembled(t, c.list)
		for i, x := range list {
			if x == halt { // a way that is not gone
				list[i] = op(api.OpJump, int64(i))
			}
		}
		if got, _, e := sent(t, int_, api.Frame{}, list...); got != c.want || e != api.OK {
			t.Errorf("%s: %d, %d", c.list, got, e)
		}
	}
	// MaxDeep words, of which each is told by pick.
	for depth := range int64(31) {
		var list []api.Ins
		for n := range int64(31) {
			list = append(list, op(api.OpInt, n))
		}
		list = append(append(append(list, op(api.OpPick, depth), op(api.OpSet, 0)), clean(31)...), op(api.OpGet, 0))
		if got, _, e := sent(t, int_, api.Frame{}, list...); got != uint64(30-depth) || e != api.OK {
			t.Errorf("pick %d: %d, %d", depth, got, e)
		}
	}
}
