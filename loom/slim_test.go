package loom_test

import (
	"reflect"
	"testing"

	"sluice/api"
	"sluice/loom"
)

// P11.6: what is slimmed, in fold: what is never reached, jumps to jumps and to the next one, choices that are known, words that nobody takes, what undoes itself, constants that can be reckoned ahead.
func TestSlimOf(t *testing.T) {
	for _, c := range []struct{ list, want string }{
		{"jump 1, halt, halt", "halt"},
		{"halt, int 1, drop, halt", "halt"},
		{"jump 2, halt, jump 4, halt, jump 6, halt, halt", "halt"},
		{"agg 1, toagg 1, jump 4, halt, jump 6, halt, agg 5, toagg 5, halt", "agg 1, toagg 1, agg 5, toagg 5, halt"},
		{"agg 3, jumpif 4, agg 5, toagg 5, jump 6, halt, halt", "agg 3, jumpif 4, agg 5, toagg 5, halt"},
		{"bool 1, jumpif 4, int 1, toagg 1, halt", "halt"},
		{"bool 0, jumpif 4, int 1, toagg 1, halt", "int 1, toagg 1, halt"},
		{"bool 0, jumpunless 4, int 1, toagg 1, halt", "halt"},
		{"bool 1, jumpunless 4, int 1, toagg 1, halt", "int 1, toagg 1, halt"},
		{"agg 3, not, jumpif 5, int 1, toagg 1, halt", "agg 3, jumpunless 4, int 1, toagg 1, halt"},
		{"agg 3, not, jumpunless 5, int 1, toagg 1, halt", "agg 3, jumpif 4, int 1, toagg 1, halt"},
		{"agg 3, not, not, not, jumpif 7, int 1, toagg 1, halt", "agg 3, jumpunless 4, int 1, toagg 1, halt"},
		{"agg 3, jumpif 2, halt", "agg 3, drop, halt"},
		{"vertex, jump 2, drop, halt", "halt"},
		{"int 5, real 7, bool 1, dup, pick 2, drop, drop, drop, drop, drop, halt", "halt"},
		{"int 5, set 0, get 0, set 0, get 0, drop, halt", "int 5, set 0, halt"},
		{"agg 2, negf, negf, toagg 2, halt", "agg 2, toagg 2, halt"},
		{"agg 1, agg 5, swap, swap, subi, toagg 1, halt", "agg 1, agg 5, subi, toagg 1, halt"},
		{"agg 1, shl 0, shr 0, toagg 1, halt", "agg 1, toagg 1, halt"},
		{"int 5, int 3, subi, int 2, muli, toagg 1, halt", "int 4, toagg 1, halt"},
		{"int 1, shl 4, toreal, real 0x40000000, mulf, sqrtf, toagg 2, halt", "real 0x40b504f3, toagg 2, halt"},
		{"int 1, int 2, lti, jumpif 5, halt, int 9, toagg 1, halt", "int 9, toagg 1, halt"},
		{"bool 1, jumpif 3, halt, int 2, toagg 1, bool 0, jumpif 3, halt", "int 2, toagg 1, halt"},
		{"jump 1, jump 0", "jump 0"},
		{"bool 1, jumpif 0, halt", "jump 0"},
		// What may trap stays, and what a jump goes between.
		{"agg 2, drop, halt", "agg 2, drop, halt"},
		{"agg 1, set 0, agg 5, set 1, get 0, set 1, get 1, toagg 1, halt", "agg 1, set 0, agg 5, set 1, get 0, set 1, get 1, toagg 1, halt"},
		{"int 1, int 0, quoi, drop, halt", "int 1, int 0, quoi, drop, halt"},
		{"int -9223372036854775808, negi, toagg 1, halt", "int -9223372036854775808, negi, toagg 1, halt"},
		{"agg 1, negi, negi, toagg 1, halt", "agg 1, negi, negi, toagg 1, halt"},
		{"agg 3, bool 1, not, agg 3, jumpif 2, eqb, toagg 3, halt", "agg 3, bool 1, not, agg 3, jumpif 2, eqb, toagg 3, halt"},
		{"agg 3, jumpif 4, int 1, jump 5, int 2, drop, halt", "agg 3, jumpif 4, int 1, jump 5, int 2, drop, halt"},
		{"agg 3, jumpif 5, int 3, int 4, jump 7, int 1, int 2, addi, toagg 1, halt", "agg 3, jumpif 5, int 3, int 4, jump 7, int 1, int 2, addi, toagg 1, halt"},
	} {
		code := with(mixed(), api.HandFold, assembled(t, c.list)...)
		taken(t, code)
		s, e := loom.Slim(code)
		if want := assembled(t, c.want); e != api.OK || !reflect.DeepEqual(s.Hands[api.HandFold], want) {
			t.Errorf("%s: %v, %d, not %v", c.list, s.Hands[api.HandFold], e, want)
		}
		slimAsIs(t, code, s)
	}
}

// slimAsIs looks at what Slim may change and what not.
func slimAsIs(t *testing.T, c, s api.Code) {
	t.Helper()
	taken(t, s)
	lists := s.Hands
	for hand := range lists {
		if len(lists[hand]) > len(c.Hands[hand]) {
			t.Errorf("%v is longer than %v", lists[hand], c.Hands[hand])
		}
	}
	s.Hands = c.Hands
	if !same(s, c) {
		t.Errorf("%v, not %v", s, c)
	}
}

// P11.6: what Check refuses; and that the code that was handed in stays as it was, and shares nothing with the answer.
func TestSlimApart(t *testing.T) {
	wrong := mixed()
	wrong.Agg[0] = 9
	for _, c := range []api.Code{{}, wrong, with(mixed(), 3, op(api.OpDrop))} {
		if s, e := loom.Slim(c); e != api.ErrCode || !same(s, api.Code{}) {
			t.Errorf("%v, %d", s, e)
		}
	}
	for _, c := range append(kinds(), with(mixed(), 3, assembled(t, "jump 1, halt, halt")...)) {
		before := clone(c)
		s, _ := loom.Slim(c)
		if !same(c, before) {
			t.Errorf("%v, not %v", c, before)
		}
		apart(t, c, s)
	}
}

// clone copies a code whole.
func clone(c api.Code) api.Code {
	for hand, list := range c.Hands {
		c.Hands[hand] = append([]api.Ins(nil), list...)
	}
	return c
}

// apart fails if something written into one code, or behind its lists, is seen in the other or in another list.
func apart(t *testing.T, c, s api.Code) {
	t.Helper()
	before := clone(c)
	for hand, list := range s.Hands {
		room := list[:cap(list)]
		for i := range room {
			room[i] = op(1000 + hand)
		}
	}
	for hand, list := range s.Hands {
		for _, x := range list[:cap(list)] {
			if x.Op != 1000+hand {
				t.Errorf("two lists share memory")
			}
		}
	}
	if !same(c, before) {
		t.Errorf("the answer shares memory with what was handed in")
	}
}

// P11.6: any codes: the slim one does what the other does at many frames, in no more steps; and slimming it again changes nothing.
func TestSlimRuns(t *testing.T) {
	roll, all := dice(6), rows()
	slimmed, plain, rings := 0, 0, 0
	for i := range 2000 {
		c := oddCode(roll, all, 1+roll.IntN(60), i%8 != 0)
		if ok, _, _ := (model{all, c}).check(); !ok {
			continue
		}
		s, e := loom.Slim(c)
		if e != api.OK {
			t.Fatalf("%d of %v", e, c)
		}
		slimAsIs(t, c, s)
		if same(c, s) {
			plain++
		} else {
			slimmed++
		}
		if again, _ := loom.Slim(s); !same(again, s) {
			t.Fatalf("%v is slimmed again: %v", s, again)
		}
		for hand := range api.Hands {
			for range 5 {
				f := oddFrame(roll)
				if _, _, e := loom.Run(c, hand, f, 3000); e == api.ErrFuel && rings > 20 {
					break // nearly always a ring without an end
				}
				x, n, e := loom.Run(c, hand, f, api.MaxFuel)
				if e == api.ErrFuel {
					rings++
					break
				}
				if gotX, gotN, gotE := loom.Run(s, hand, f, api.MaxFuel); gotX != x || gotE != e || gotN > n {
					t.Fatalf("hand %d of %v: %v, %d, %d; slim %v: %v, %d, %d; frame %v", hand, c, x, n, e, s, gotX, gotN, gotE, f)
				}
			}
		}
	}
	if slimmed < 500 || plain < 5 {
		t.Errorf("%d slimmed, %d as they were", slimmed, plain)
	}
}
