package loom_test

import (
	"fmt"
	"slices"
	"testing"

	"sluice/api"
	"sluice/loom"
)

// P11.2: faults of a walk through fold, where the stack is empty at the end, and their places.
func TestWalkFaults(t *testing.T) {
	for _, c := range []struct {
		list string
		at   int
	}{
		{"addi, halt", 0},
		{"int 1, addi, halt", 1},
		{"int 1, bool 1, addi, drop, halt", 2},
		{"int 1, halt", 1},
		{"int 1, drop, drop, halt", 2},
		{"int 1, swap, drop, halt", 1},
		{"dup, halt", 0},
		{"drop, halt", 0},
		{"set 0, halt", 0},
		{"int 1, jumpif 2, halt", 1},
		{"jumpunless 0, halt", 0},
		{"real 0, toagg 1, halt", 1},
		{"int 0, toagg 2, halt", 1},
		// The fall off the end.
		{"int 1", 1},
		{"int 1, drop", 2},
		{"bool 1, jumpif 0", 2},
		{"bool 1, jumpunless 3, halt, int 1, drop", 5},
		{"jump 2, halt, int 5, drop", 4},
		// pick below the stack.
		{"pick 0, drop, halt", 0},
		{"int 1, pick 1, drop, drop, halt", 1},
		{"int 1, int 2, pick 1, pick 3, halt", 3},
		// Locals that are nothing.
		{"get 0, drop, halt", 0},
		{"int 1, set 1, get 0, drop, halt", 2},
		{"bool 1, jumpif 4, int 1, set 0, get 0, drop, halt", 4},
		{"bool 1, jumpunless 4, int 1, set 0, get 0, drop, halt", 4},
		{"bool 1, jumpif 5, int 1, set 0, jump 7, real 1, set 0, get 0, drop, halt", 7},
		{"bool 1, jumpif 5, int 1, set 0, jump 7, real 1, set 0, bool 0, jumpif 10, jump 9, get 0, drop, halt", 10},
		// A local is read ahead of the place where, the second time around, it is something else.
		{"int 1, set 0, get 0, drop, real 1, set 0, bool 1, jumpif 2, halt", 2},
		{"int 1, set 0, int 1, set 1, get 0, drop, get 1, drop, bool 1, set 1, bool 1, jumpif 4, halt", 6},
		// The kind of a local at a place that fits one way only.
		{"int 1, set 0, get 0, int 1, addi, drop, bool 1, set 0, get 0, jumpif 10, halt", -1},
		// Stacks that differ where ways meet: at the one that comes second.
		{"bool 1, jumpif 3, int 1, halt", 2},
		{"bool 1, jumpif 4, int 1, jump 5, bool 1, drop, halt", 4},
		{"int 1, bool 1, jumpif 0, drop, halt", 2},
		{"int 1, jump 0", 1},
		{"int 1, drop, bool 1, bool 1, jumpif 0, drop, halt", 4},
		{"bool 1, dup, jumpif 5, drop, halt, halt", 5},
		{"bool 1, dup, jumpif 4, drop, halt", 3},
		// The next one goes first; both faults are at the jump.
		{"bool 1, jumpif 4, jump 3, halt, drop, halt", 4},
		// The least number that is due goes first, so what is reached by a jump back is looked at ahead of what comes next.
		{"jump 4, addi, halt, halt, bool 1, jumpif 1, drop, halt", 1},
		{"jump 2, addi, int 1, drop, drop, jump 1", 4},
		{"bool 1, jumpif 3, jump 4, drop, addi", 3},
		{"bool 1, jumpif 4, drop, halt, drop, halt", 2},
		// Right ones.
		{"halt", -1},
		{"jump 0", -1},
		{"bool 1, jumpif 0, halt", -1},
		{"jump 1, halt, addi, drop", -1},
		{"int 1, set 0, get 0, set 0, halt", -1},
		{"bool 1, jumpif 5, int 1, set 0, jump 7, real 1, set 0, halt", -1},
		{"bool 1, jumpif 5, int 1, set 0, jump 7, int 2, set 0, get 0, drop, halt", -1},
		{"int 1, set 0, bool 1, jumpif 6, bool 1, set 0, int 5, set 0, get 0, int 1, addi, drop, halt", -1},
		{"int 1, bool 1, pick 1, drop, drop, drop, halt", -1},
		{"bool 1, int 1, swap, jumpif 4, drop, halt", -1},
	} {
		code := with(mixed(), api.HandFold, assembled(t, c.list)...)
		if c.at < 0 {
			if e, hand, at := loom.Check(code); e != api.OK || hand != 0 || at != 0 {
				t.Errorf("%s: %d, %d, %d", c.list, e, hand, at)
			}
			continue
		}
		refused(t, c.list, code, api.HandFold, c.at)
	}
}

// stacks tells all lists of kinds of up to so many words.
func stacks(deep int) [][]api.WordKind {
	all := [][]api.WordKind{nil}
	for from := 0; deep > 0; deep-- {
		to := len(all)
		for _, list := range all[from:to] {
			for k := int_; k <= bool_; k++ {
				all = append(all, append(slices.Clone(list), k))
			}
		}
		from = to
	}
	return all
}

// clean drops so many words.
func clean(n int) []api.Ins { return slices.Repeat([]api.Ins{op(api.OpDrop)}, n) }

// P11.2: what each instruction pops and pushes, on every stack of up to three words: it is a fault just where the kinds don't fit, and what stands there behind it is taken off by instructions that ask for just those kinds.
func TestKindsOnTheStack(t *testing.T) {
	ask := map[byte]api.Ins{'i': op(api.OpNegI), 'r': op(api.OpNegF), 'b': op(api.OpNot)}
	all := rows()
	for _, c := range kinds() {
		for hand := range api.Hands {
			m := model{all, c}
			for _, r := range all[1:api.OpJump] {
				if !r.hands[hand] {
					continue
				}
				for n := range int64(9) {
					if !m.argument(hand, op(r.op, n)) {
						continue
					}
					for _, stack := range stacks(3) {
						var list []api.Ins
						for _, k := range stack {
							list = append(list, constant(k))
						}
						at := len(list)
						list = append(list, op(r.op, n))
						behind, ok := m.step(hand, op(r.op, n), look{lettersOf(stack...), "--------"})
						for i := len(behind.stack) - 1; ok && i >= 0; i-- {
							list = append(list, ask[behind.stack[i]], op(api.OpDrop))
						}
						list = append(list, c.Hands[hand]...)
						if changed := with(c, hand, list...); !ok {
							refused(t, fmt.Sprint(r.name, n, stack), changed, hand, at)
						} else if e, h, a := loom.Check(changed); e != api.OK {
							t.Errorf("%s %d on %v: %d, %d, %d", r.name, n, stack, e, h, a)
						}
					}
				}
			}
		}
	}
}

// P11.2: MaxDeep words on the stack, and one more, by whatever pushes it.
func TestDeep(t *testing.T) {
	for _, r := range rows() {
		if !r.hands[api.HandFold] || len(r.pushes) <= len(r.pops) || r.pops != nil && r.name != "dup" {
			continue
		}
		for _, c := range []api.Code{mixed(), summed()} {
			for n := range int64(8) {
				if !(model{rows(), c}).argument(api.HandFold, op(r.op, n)) {
					continue
				}
				for _, below := range []int{31, 32} {
					list := append([]api.Ins{op(api.OpInt, 1), op(api.OpSet, n)}, slices.Repeat([]api.Ins{op(api.OpInt, 1)}, below)...)
					list = append(list, op(r.op, n))
					list = append(append(list, clean(below+1)...), halt)
					changed := with(c, api.HandFold, list...)
					if below == 31 {
						taken(t, changed)
					} else {
						refused(t, r.name, changed, api.HandFold, 34)
					}
				}
			}
		}
	}
	full := slices.Repeat([]api.Ins{op(api.OpInt, 1)}, 32)
	list := append(slices.Clone(full), op(api.OpSwap), op(api.OpNegI), op(api.OpPick, 31))
	refused(t, "pick", with(small(), 3, append(append(list, clean(33)...), halt)...), 3, 34)
	list = append(append(slices.Clone(full), op(api.OpSwap), op(api.OpNegI), op(api.OpShl, 1), op(api.OpAddI), op(api.OpPick, 30)), clean(32)...)
	taken(t, with(small(), 3, append(list, halt)...))
}

// P11.2: what a halt finds must be just the results of its handler.
func TestResults(t *testing.T) {
	for _, c := range kinds() {
		for hand := range api.Hands {
			want := (model{c: c}).results(hand)
			for _, stack := range stacks(4) {
				var list []api.Ins
				for _, k := range stack {
					list = append(list, constant(k))
				}
				changed := with(c, hand, append(list, halt)...)
				if lettersOf(stack...) == want {
					taken(t, changed)
				} else {
					refused(t, stack, changed, hand, len(list))
				}
			}
		}
	}
}

// P11.2: locals 0 to 7 are eight of their own.
func TestLocals(t *testing.T) {
	var list []api.Ins
	for n := range int64(8) {
		list = append(list, op(api.OpInt, 10+n), op(api.OpSet, n))
	}
	for n := range int64(8) {
		list = append(list, op(api.OpGet, n), op(api.OpAgg, 1), op(api.OpInt, 100), op(api.OpMulI), op(api.OpAddI), op(api.OpToAgg, 1))
	}
	code := with(mixed(), 3, append(list, halt)...)
	taken(t, code)
	if x, _, e := loom.Run(code, 3, api.Frame{}, 1000); e != api.OK || x.Agg[1] != 1011121314151617 {
		t.Errorf("%d, %d", x.Agg[1], e)
	}
}

// P11.2: a ring in which every time around one local more becomes nothing is walked to its end.
func TestManyRounds(t *testing.T) {
	var list []api.Ins
	for n := range int64(8) {
		list = append(list, op(api.OpInt, n), op(api.OpSet, n))
	}
	top := int64(len(list))
	list = append(list, op(api.OpBool, 1), op(api.OpSet, 7))
	for n := int64(0); n < 7; n++ { // local n is nothing as soon as the one above it was
		list = append(list, op(api.OpBool, 1), op(api.OpJumpIf, top+2+n*4+4), op(api.OpReal, 0), op(api.OpSet, n))
	}
	list = append(list, op(api.OpBool, 1), op(api.OpJumpIf, top), halt)
	taken(t, with(small(), 3, list...))
	for n := range int64(8) {
		reading := slices.Insert(slices.Clone(list), int(top), op(api.OpGet, n), op(api.OpDrop))
		for i, x := range reading {
			if x.Op == api.OpJumpIf && x.Arg > top {
				reading[i].Arg += 2
			}
		}
		refused(t, n, with(small(), 3, reading...), 3, int(top))
	}
}
