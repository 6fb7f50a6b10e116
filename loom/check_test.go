package loom_test

import (
	"fmt"
	"math"
	"slices"
	"testing"

	"sluice/api"
	"sluice/loom"
)

// P11.1: the chapter's numbers are api's, and the codes that the tests begin with are right.
func TestBegin(t *testing.T) {
	if len(rows()) != 69 {
		t.Fatalf("%d rows", len(rows()))
	}
	for i, r := range rows() {
		if r.op != i {
			t.Errorf("row %d is of %d", i, r.op)
		}
	}
	for _, c := range kinds() {
		taken(t, c)
	}
}

// P11.1: each thing ahead of the handlers, wrong by itself.
func TestHeadWrong(t *testing.T) {
	for i, change := range []func(c *api.Code){
		func(c *api.Code) { c.Words = 0 },
		func(c *api.Code) { c.Words = -1 },
		func(c *api.Code) { c.Words = 9 },
		func(c *api.Code) { c.Words = math.MaxInt },
		func(c *api.Code) { c.Words = math.MinInt },
		func(c *api.Code) { c.Words = 4 },
		func(c *api.Code) { c.Words = 6 },
		func(c *api.Code) { c.State[0] = none },
		func(c *api.Code) { c.State[4] = none },
		func(c *api.Code) { c.State[2] = -1 },
		func(c *api.Code) { c.State[2] = 5 },
		func(c *api.Code) { c.State[2] = math.MaxInt },
		func(c *api.Code) { c.State[2] = sum },
		func(c *api.Code) { c.State[5] = int_ },
		func(c *api.Code) { c.State[7] = int_ },
		func(c *api.Code) { c.State[7] = sum },
		func(c *api.Code) { c.Agg[0] = -1 },
		func(c *api.Code) { c.Agg[7] = 5 },
		func(c *api.Code) { c.Agg[4] = sum },
		func(c *api.Code) { c.Agg = [8]api.WordKind{sum, sum, sum, sum, sum} },
		func(c *api.Code) { c.Agg = [8]api.WordKind{sum, sum, sum, sum, sum, sum, sum} },
		func(c *api.Code) { c.Agg = [8]api.WordKind{sum, sum, sum, sum, sum, sum, sum, sum} },
		func(c *api.Code) { c.Agg = [8]api.WordKind{sum, sum, sum, int_, sum, sum, sum} },
		func(c *api.Code) { c.Agg = [8]api.WordKind{sum, sum, sum, sum, sum, sum, int_, sum} },
		func(c *api.Code) { c.Agg = [8]api.WordKind{sum, int_, sum, sum, sum, sum, sum, sum} },
		func(c *api.Code) { c.Agg = [8]api.WordKind{3: sum, 4: sum, 5: sum, 6: sum, 7: sum} },
		func(c *api.Code) { c.Ctl[0] = -1 },
		func(c *api.Code) { c.Ctl[0] = sum },
		func(c *api.Code) { c.Ctl[3] = sum },
		func(c *api.Code) { c.Ctl[3] = 5 },
		func(c *api.Code) { c.MsgA = none },
		func(c *api.Code) { c.MsgA = sum },
		func(c *api.Code) { c.MsgA = -1 },
		func(c *api.Code) { c.MsgA = 5 },
		func(c *api.Code) { c.MsgB = sum },
		func(c *api.Code) { c.MsgB = -1 },
		func(c *api.Code) { c.MsgB = 5 },
		func(c *api.Code) { c.MsgB = none; c.Hands = plain(*c).Hands },
		func(c *api.Code) { c.Sink.A = 5 },
		func(c *api.Code) { c.Sink.A = -1 },
		func(c *api.Code) { c.Sink.A = math.MaxInt },
		func(c *api.Code) { c.Sink.A = math.MinInt },
		func(c *api.Code) { c.Sink.B = 5 },
		func(c *api.Code) { c.Sink.B = -1 },
		func(c *api.Code) { c.Sink.B = math.MaxInt },
		func(c *api.Code) { c.Sink.B = 3 },
		func(c *api.Code) { c.Sink.MonA = -1 },
		func(c *api.Code) { c.Sink.MonA = 10 },
		func(c *api.Code) { c.Sink.MonB = -1 },
		func(c *api.Code) { c.Sink.MonB = 10 },
		func(c *api.Code) { c.Sink.MonA = api.MonTally },
		func(c *api.Code) { c.Sink.A, c.Sink.MonA = 0, api.MonTally },
		func(c *api.Code) { c.Sink.MonA = api.MonNone },
		func(c *api.Code) { c.Sink.B, c.Sink.MonB = 1, api.MonNone },
	} {
		c := mixed()
		change(&c)
		refused(t, i, c, -1, 0)
	}
	for i, change := range []func(c *api.Code){
		func(c *api.Code) { c.Words = 7 },
		func(c *api.Code) { c.State[1] = int_ },
		func(c *api.Code) { c.State[7] = sum },
		func(c *api.Code) { c.State[4] = real },
		func(c *api.Code) { c.Sink.A = 0 },
		func(c *api.Code) { c.Sink.A = 2 },
		func(c *api.Code) { c.Sink.A = 3 },
		func(c *api.Code) { c.Sink.MonA = api.MonMin },
		func(c *api.Code) { c.Sink.B = 1 },
		func(c *api.Code) { c.Sink.B = 6 },
		func(c *api.Code) { c.Sink.MonB = api.MonTally },
		func(c *api.Code) { c.Sink.B, c.Sink.MonB = 1, api.MonTally },
		func(c *api.Code) { c.MsgA = int_; c.Hands = plain(*c).Hands },
		func(c *api.Code) { c.MsgA = bool_; c.Hands = plain(*c).Hands },
	} {
		c := summed()
		change(&c)
		refused(t, fmt.Sprint("sums ", i), c, -1, 0)
	}
}

// P11.1: what may be so, up to its edges.
func TestHeadRight(t *testing.T) {
	for i, change := range []func(c *api.Code){
		func(c *api.Code) { *c = small() },
		func(c *api.Code) {
			c.Words, c.State = 8, [8]api.WordKind{int_, real, bool_, bool_, int_, real, real, bool_}
		},
		func(c *api.Code) { c.Agg = [8]api.WordKind{} },
		func(c *api.Code) { c.Agg = [8]api.WordKind{sum, sum, sum, sum, sum, sum} },
		func(c *api.Code) { c.Agg = [8]api.WordKind{2: sum, 3: sum, 4: sum, 5: sum, 6: sum, 7: sum} },
		func(c *api.Code) { c.Ctl = [4]api.WordKind{bool_, bool_, bool_, bool_} },
		func(c *api.Code) { c.Sink = api.Sink{} },
		func(c *api.Code) { c.Sink = api.Sink{A: 0, MonA: api.MonAdd, B: 4, MonB: api.MonNibbles} },
		func(c *api.Code) { c.Sink = api.Sink{A: 0, MonA: api.MonNone, B: 0, MonB: api.MonMin} },
		func(c *api.Code) { c.Sink = api.Sink{A: 0, MonA: api.MonMin} },
		func(c *api.Code) { c.MsgB, c.Sink = none, api.Sink{A: 4, MonA: api.MonMinInt} },
		func(c *api.Code) { c.Both = false },
		func(c *api.Code) {
			c.Words, c.State, c.MsgA = 6, [8]api.WordKind{sum, sum, sum, sum, sum, sum}, real
			c.Sink = api.Sink{A: 0, MonA: api.MonTally}
		},
		func(c *api.Code) {
			c.Words, c.State, c.MsgB = 8, [8]api.WordKind{bool_, bool_, sum, sum, sum, sum, sum, sum}, real
			c.Sink = api.Sink{A: 1, MonA: api.MonAnd, B: 2, MonB: api.MonTally}
		},
		func(c *api.Code) {
			c.Words, c.State, c.MsgB = 7, [8]api.WordKind{sum, sum, sum, sum, sum, sum, int_}, real
			c.Sink = api.Sink{A: 6, MonA: api.MonMaxInt, B: 0, MonB: api.MonTally}
		},
	} {
		c := mixed()
		change(&c)
		if e, hand, at := loom.Check(plain(c)); e != api.OK || hand != 0 || at != 0 {
			t.Errorf("%d: %d, %d, %d", i, e, hand, at)
		}
	}
	for monoid := api.MonNone; monoid <= api.MonNibbles; monoid++ {
		c := mixed()
		c.Sink = api.Sink{MonA: monoid}
		taken(t, c)
	}
}

// P11.1: what stands ahead goes first; then handler by handler: its length, its instructions by themselves, its walk.
func TestFirstFault(t *testing.T) {
	bad := func(list ...api.Ins) []api.Ins { return list }
	static, walked, empty, long := bad(halt, op(99)), bad(op(api.OpDrop), halt), bad(), make([]api.Ins, 513)
	for hand := range api.Hands {
		for i, list := range [][]api.Ins{static, walked, empty, long} {
			c := with(mixed(), hand, list...)
			want := []int{1, 0, 0, 512}[i]
			refused(t, fmt.Sprint(hand, i), c, hand, want)
			for later := hand + 1; later < api.Hands; later++ {
				for _, other := range [][]api.Ins{static, walked, empty, long} {
					c.Hands[later] = other
					refused(t, fmt.Sprint(hand, i, later), c, hand, want)
				}
			}
			c.Words = 9
			refused(t, fmt.Sprint(hand, i, " and ahead"), c, -1, 0)
		}
	}
	// In one handler: an instruction that may not be goes ahead of a walk's fault, wherever it stands.
	refused(t, "both", with(small(), 3, op(api.OpAddI), halt, op(api.OpDup, 1), op(99)), 3, 2)
	// And its length ahead of both.
	refused(t, "long", with(small(), 3, slices.Repeat([]api.Ins{op(99)}, 513)...), 3, 512)
	refused(t, "nothing at all", api.Code{}, -1, 0)
	refused(t, "no words", plain(api.Code{MsgA: int_}), -1, 0)
}

// P11.1: MaxIns instructions, and one more.
func TestLength(t *testing.T) {
	list := slices.Repeat([]api.Ins{op(api.OpInt, 1), op(api.OpDrop)}, 255)
	list = append(list, op(api.OpJump, 511), halt)
	taken(t, with(small(), 3, list...))
	refused(t, "one more", with(small(), 3, append(list, halt)...), 3, 512)
	refused(t, "many more", with(small(), 3, make([]api.Ins, 100000)...), 3, 512)
	refused(t, "nil", with(small(), 3), 3, 0)
	refused(t, "empty", with(small(), 4, []api.Ins{}...), 4, 0)
}

// allowed tells by hand which Args may be, of the Args that are tried.
func allowed(name string, r row, code string) []int64 {
	words := map[string]map[string][]int64{
		"small":  {"state": {0}},
		"mixed":  {"state": {0, 1, 2, 3, 4}, "agg": {1, 2, 3, 5, 7}, "ctl": {0, 2, 3}},
		"summed": {"state": {0, 7}, "agg": {0, 1}, "ctl": {0}, "sum": {1}, "aggsum": {2}},
	}[code]
	switch name {
	case "int":
		return tried
	case "real":
		return []int64{0, 1, 2, 3, 4, 5, 6, 7, 8, 9, 10, 31, 32, 63, 64, 0x7f800000, 0x80000000, 0xff800000, 0xff7fffff}
	case "bool":
		return []int64{0, 1}
	case "pick":
		return []int64{0, 1, 2, 3, 4, 5, 6, 7, 8, 9, 10, 31}
	case "get", "set":
		return []int64{0, 1, 2, 3, 4, 5, 6, 7}
	case "state", "tostate":
		return words["state"]
	case "agg", "toagg":
		return words["agg"]
	case "ctl", "toctl":
		return words["ctl"]
	case "shl", "shr":
		return []int64{0, 1, 2, 3, 4, 5, 6, 7, 8, 9, 10, 31, 32, 63}
	case "tally", "total", "clear":
		return words["sum"]
	case "aggtally", "aggtotal":
		return words["aggsum"]
	}
	return []int64{0}
}

var tried = []int64{math.MinInt64, -1 << 32, -2, -1, 0, 1, 2, 3, 4, 5, 6, 7, 8, 9, 10, 31, 32, 63, 64, 0x7f800000, 0x7f800001, 0x7fc00000, 0x7fffffff, 0x80000000, 0xff7fffff, 0xff800000, 0xff800001, 0xffffffff, 1 << 32, 1<<32 + 1, 1 << 33, math.MaxInt64}

// P11.1: each instruction in each handler, with each Arg that it may have, and others. It stands behind a halt, so it is not walked.
func TestEachInstruction(t *testing.T) {
	for i, c := range kinds() {
		code := []string{"small", "mixed", "summed"}[i]
		for hand := range api.Hands {
			list := c.Hands[hand]
			at := len(list)
			for _, r := range rows() {
				for _, n := range tried {
					may := r.hands[hand] && slices.Contains(allowed(r.name, r, code), n)
					if r.arg == "where" {
						may = n >= 0 && n <= int64(at)
					}
					changed := with(c, hand, append(slices.Clone(list), op(r.op, n))...)
					if may {
						if e, _, _ := loom.Check(changed); e != api.OK {
							t.Errorf("%s: %s %d in %d: %d", code, r.name, n, hand, e)
						}
						continue
					}
					refused(t, fmt.Sprint(code, r.name, n, hand), changed, hand, at)
				}
			}
			for _, o := range []int{-1, -2, 69, 70, 256, 257, 1 << 32, 1<<32 + 1, math.MaxInt, math.MinInt} {
				refused(t, o, with(c, hand, append(slices.Clone(list), op(o))...), hand, at)
			}
		}
	}
}

// P11.1: an instruction is looked at by itself though it is never reached, and the first by number is told.
func TestByNumber(t *testing.T) {
	refused(t, "two", with(small(), 3, op(api.OpJump, 3), op(api.OpShl, 64), op(77), halt), 3, 1)
	refused(t, "a jump to behind the end", with(small(), 3, op(api.OpJump, 1)), 3, 0)
	refused(t, "a jump to before the beginning", with(small(), 3, halt, op(api.OpJump, -1)), 3, 1)
	taken(t, with(small(), 3, op(api.OpJump, 3), op(api.OpAddI), op(api.OpGet, 3), halt, op(api.OpDrop)))
}
