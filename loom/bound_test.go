package loom_test

import (
	"math"
	"slices"
	"testing"

	"sluice/api"
	"sluice/loom"
)

// P11.5: codes with and without jumps back; only the jumps that are reached count, and all ways do, be they gone or not.
func TestBound(t *testing.T) {
	for _, c := range []struct {
		list string
		most int
		ok   bool
	}{
		{"halt", 1, true},
		{"int 1, drop, halt", 3, true},
		{"jump 0", 0, false},
		{"jump 1, jump 1", 0, false},
		{"jump 1, jump 0", 0, false},
		{"bool 1, jumpif 0, halt", 0, false},
		{"bool 0, jumpif 1, halt", -1, false},
		{"bool 0, jumpunless 0, halt", 0, false},
		{"jump 1, halt", 2, true},
		{"jump 2, jump 0, halt", 2, true},
		{"jump 2, jump 1, halt", 2, true},
		{"halt, bool 1, jumpif 0, halt", 1, true},
		{"jump 3, bool 1, jumpif 0, halt, int 1, drop, jump 4", 2, true},
		{"bool 0, jumpif 5, int 1, drop, halt, halt", 5, true},
		{"bool 0, jumpif 4, halt, halt, int 1, drop, int 1, drop, halt", 7, true},
		{"bool 0, jumpif 4, int 1, drop, int 1, drop, halt", 7, true},
		{"bool 1, jumpif 2, halt", 3, true},
		{"bool 1, jumpunless 5, bool 1, jumpunless 5, jump 6, jump 6, halt", 6, true},
		{"int 1, int 0, quoi, drop, halt", 5, true},
	} {
		code := with(small(), api.HandFold, assembled(t, c.list)...)
		if c.most < 0 {
			refused(t, c.list, code, api.HandFold, 1)
			c.most = 0
		}
		if n, ok := loom.Bound(code, api.HandFold); n != c.most || ok != c.ok {
			t.Errorf("%s: %d, %v", c.list, n, ok)
		}
	}
	example, _, _ := loom.Parse(bfs)
	for hand, want := range []int{8, 7, 2, 1, 2} {
		if n, ok := loom.Bound(example, hand); n != want || !ok {
			t.Errorf("hand %d: %d, %v", hand, n, ok)
		}
	}
	// A ring in another handler is none of this one's.
	if n, ok := loom.Bound(with(example, 4, op(api.OpJump, 0)), 0); n != 8 || !ok {
		t.Errorf("%d, %v", n, ok)
	}
	long := append(slices.Repeat([]api.Ins{op(api.OpInt, 1), op(api.OpDrop)}, 255), op(api.OpJump, 511), halt)
	if n, ok := loom.Bound(with(small(), 3, long...), 3); n != 512 || !ok {
		t.Errorf("%d, %v", n, ok)
	}
}

// P11.5: hands that there are not, codes that Check refuses, in whatever handler.
func TestBoundRefuses(t *testing.T) {
	for _, hand := range []int{-1, 5, math.MaxInt, math.MinInt} {
		if n, ok := loom.Bound(mixed(), hand); n != 0 || ok {
			t.Errorf("hand %d: %d, %v", hand, n, ok)
		}
	}
	for hand := range api.Hands {
		for other := range api.Hands {
			if n, ok := loom.Bound(with(mixed(), other, op(api.OpDrop), halt), hand); n != 0 || ok {
				t.Errorf("%d, %d: %d, %v", hand, other, n, ok)
			}
		}
		if n, ok := loom.Bound(api.Code{}, hand); n != 0 || ok {
			t.Errorf("%d: %d, %v", hand, n, ok)
		}
	}
}

// longest is the most steps from an instruction on, by going all ways; -1: some way goes back.
func (m model) longest(list []api.Ins, at int, known map[int]int) int {
	if n, is := known[at]; is {
		return n
	}
	most := 0
	for _, to := range m.next(list[at], at) {
		if to <= at {
			known[at] = -1
			return -1
		}
		n := m.longest(list, to, known)
		if n < 0 {
			known[at] = -1
			return -1
		}
		most = max(most, n)
	}
	known[at] = most + 1
	return most + 1
}

// P11.5: against all ways through any codes; and no Run makes more steps.
func TestBoundAgainstWays(t *testing.T) {
	roll, all := dice(5), rows()
	with, without := 0, 0
	for i := range 3000 {
		c := oddCode(roll, all, 1+roll.IntN(50), i%2 == 0)
		m := model{all, c}
		if ok, _, _ := m.check(); !ok {
			continue
		}
		for hand, list := range c.Hands {
			want := m.longest(list, 0, map[int]int{})
			n, ok := loom.Bound(c, hand)
			if n != max(want, 0) || ok != (want > 0) {
				t.Fatalf("hand %d of %v: %d, %v, not %d", hand, c, n, ok, want)
			}
			if !ok {
				without++
				continue
			}
			with++
			if _, steps, e := loom.Run(c, hand, oddFrame(roll), n); steps > n || e == api.ErrFuel {
				t.Fatalf("hand %d of %v: %d steps, %d, bound %d", hand, c, steps, e, n)
			}
		}
	}
	if with < 1000 || without < 300 {
		t.Errorf("%d with a bound, %d without", with, without)
	}
}
