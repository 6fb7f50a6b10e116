package loom_test

import (
	"math"
	"sync"
	"testing"

	"sluice/api"
	"sluice/loom"
)

// P11.11: a woven program is an api.Program.
var _ api.Program = (*loom.Woven)(nil)

// holds a woven program's eight functions against Run of its code.
func asRun(t *testing.T, p api.Program, c api.Code, f api.Frame, fuel int) {
	t.Helper()
	if p.Words() != c.Words || p.Both() != c.Both || p.Sink() != c.Sink {
		t.Errorf("%d, %v, %v of %v", p.Words(), p.Both(), p.Sink(), c)
	}
	run := func(hand int, f api.Frame) (api.Effect, api.Errno) {
		x, _, e := loom.Run(c, hand, f, fuel)
		return x, e
	}
	x, e := run(api.HandStart, api.Frame{Vertex: f.Vertex, Degrees: f.Degrees})
	if s, err := p.Start(f.Vertex, f.Degrees); s != x.State || err != e {
		t.Errorf("start: %v, %d, not %v, %d", s, err, x, e)
	}
	x, e = run(api.HandScatter, api.Frame{State: f.State, Ctl: f.Ctl, Edge: f.Edge, Back: f.Back})
	if a, b, send, err := p.Scatter(f.Ctl, f.State, f.Edge, f.Back); a != x.A || b != x.B || send != x.Flag || err != e {
		t.Errorf("scatter: %d, %d, %v, %d, not %v, %d", a, b, send, err, x, e)
	}
	x, e = run(api.HandApply, api.Frame{State: f.State, Agg: f.Agg, Ctl: f.Ctl, Vertex: f.Vertex})
	if s, changed, err := p.Apply(f.Ctl, f.Agg, f.Vertex, f.State); s != x.State || changed != x.Flag || err != e {
		t.Errorf("apply: %v, %v, %d, not %v, %d", s, changed, err, x, e)
	}
	x, e = run(api.HandFold, api.Frame{State: f.State, Agg: f.Agg, Ctl: f.Ctl, Vertex: f.Vertex})
	if agg, err := p.Fold(f.Ctl, f.Agg, f.Vertex, f.State); agg != x.Agg || err != e {
		t.Errorf("fold: %v, %d, not %v, %d", agg, err, x, e)
	}
	x, e = run(api.HandTurn, api.Frame{Agg: f.Agg, Ctl: f.Ctl, Changed: f.Changed, Round: f.Round})
	if ctl, done, err := p.Turn(f.Ctl, f.Agg, f.Changed, f.Round); ctl != x.Ctl || done != x.Flag || err != e {
		t.Errorf("turn: %v, %v, %d, not %v, %d", ctl, done, err, x, e)
	}
}

// P11.11: each function tells what its handler leaves, of what it is given and of nothing else.
func TestWoven(t *testing.T) {
	c := mixed()
	c.Hands[0] = assembled(t, "vertex, outdeg, indeg, addi, addi, tostate 0, halt")
	c.Hands[1] = assembled(t, "state 2, ctl 2, eqb, src, dst, addi, weight, addi, state 0, addi, ctl 3, addi, back, halt")
	c.Hands[2] = assembled(t, "state 0, agg 1, addi, ctl 3, addi, vertex, addi, tostate 0, state 2, halt")
	c.Hands[3] = assembled(t, "state 0, agg 1, addi, ctl 3, addi, vertex, addi, toagg 1, halt")
	c.Hands[4] = assembled(t, "agg 1, ctl 3, addi, changed, addi, round, addi, toctl 3, agg 3, halt")
	taken(t, c)
	w, e := loom.Weave(c, 100)
	if w == nil || e != api.OK {
		t.Fatalf("%d", e)
	}
	if w.Words() != 5 || !w.Both() || w.Sink() != c.Sink {
		t.Errorf("%d, %v, %v", w.Words(), w.Both(), w.Sink())
	}
	f := full
	if s, e := w.Start(f.Vertex, f.Degrees); s != (api.State{41 + 42 + 43}) || e != api.OK {
		t.Errorf("%v, %d", s, e)
	}
	for _, back := range []bool{false, true} {
		if a, b, send, e := w.Scatter(f.Ctl, f.State, f.Edge, back); a != 1 || b != 44+45+46+11+34 || send != back || e != api.OK {
			t.Errorf("%d, %d, %v, %d", a, b, send, e)
		}
	}
	if s, changed, e := w.Apply(f.Ctl, f.Agg, f.Vertex, f.State); s != (api.State{11 + 22 + 34 + 41, 12, 13, 14, 15}) || !changed || e != api.OK {
		t.Errorf("%v, %v, %d", s, changed, e)
	}
	if agg, e := w.Fold(f.Ctl, f.Agg, f.Vertex, f.State); agg != (api.State{21, 11 + 22 + 34 + 41, 23, 24, 25, 26, 27, 28}) || e != api.OK {
		t.Errorf("%v, %d", agg, e)
	}
	if ctl, done, e := w.Turn(f.Ctl, f.Agg, f.Changed, f.Round); ctl != (api.Ctl{31, 32, 33, 22 + 34 + 47 + 48}) || !done || e != api.OK {
		t.Errorf("%v, %v, %d", ctl, done, e)
	}
}

// P11.11: any codes, frames and fuels, against Run.
func TestWovenAgainstRun(t *testing.T) {
	roll, all := dice(9), rows()
	for range 1500 {
		c := oddCode(roll, all, 1+roll.IntN(40), false)
		fuel := 1 + roll.IntN(60)
		w, e := loom.Weave(c, fuel)
		if ok, _, _ := (model{all, c}).check(); ok != (e == api.OK) || ok != (w != nil) {
			t.Fatalf("%d of %v", e, c)
		}
		for range 3 {
			if w != nil {
				asRun(t, w, c, oddFrame(roll), fuel)
			}
		}
	}
}

// P11.11: fuel that may not be, ahead of codes that may not; zero answers beside errors.
func TestWeaveRefuses(t *testing.T) {
	wrong := mixed()
	wrong.Ctl[0] = 7
	for _, c := range []api.Code{small(), wrong, {}} {
		for _, fuel := range []int{0, -1, api.MaxFuel + 1, math.MaxInt, math.MinInt} {
			if w, e := loom.Weave(c, fuel); w != nil || e != api.ErrArg {
				t.Errorf("fuel %d: %d", fuel, e)
			}
		}
	}
	for _, c := range []api.Code{wrong, {}, with(small(), 4, halt)} {
		for _, fuel := range []int{1, 5, api.MaxFuel} {
			if w, e := loom.Weave(c, fuel); w != nil || e != api.ErrCode {
				t.Errorf("fuel %d: %d", fuel, e)
			}
		}
	}
	for _, fuel := range []int{1, api.MaxFuel} {
		if w, e := loom.Weave(small(), fuel); w == nil || e != api.OK {
			t.Errorf("fuel %d: %d", fuel, e)
		}
	}
	one, _ := loom.Weave(mixed(), 1) // start and fold have one instruction
	asRun(t, one, mixed(), full, 1)
	if s, changed, e := one.Apply(full.Ctl, full.Agg, 1, full.State); s != (api.State{}) || changed || e != api.ErrFuel {
		t.Errorf("%v, %v, %d", s, changed, e)
	}
	if agg, e := one.Fold(full.Ctl, full.Agg, 1, full.State); agg != full.Agg || e != api.OK {
		t.Errorf("%v, %d", agg, e)
	}
	trapping := with(mixed(), 4, assembled(t, "int 5, toctl 3, ctl 0, toctl 0, bool 1, halt")...)
	w, _ := loom.Weave(trapping, 99)
	if ctl, done, e := w.Turn(api.Ctl{0x7fc00000}, api.State{}, 0, 0); ctl != (api.Ctl{}) || done || e != api.ErrTrapReal {
		t.Errorf("%v, %v, %d", ctl, done, e)
	}
}

// P11.11: what c's lists become later changes nothing.
func TestWovenIsApart(t *testing.T) {
	c := mixed()
	before := clone(c)
	w, _ := loom.Weave(c, 50)
	for hand, list := range c.Hands {
		for i := range list {
			c.Hands[hand][i] = op(api.OpInt, 9)
		}
	}
	asRun(t, w, before, full, 50)
	c.Words, c.Both, c.Sink.A = 1, false, 9
	asRun(t, w, before, full, 50)
}

// P11.11: a nil *Woven, and one that Weave did not make.
func TestNoWoven(t *testing.T) {
	for _, w := range []*loom.Woven{nil, new(loom.Woven)} {
		if w.Words() != 0 || w.Both() || w.Sink() != (api.Sink{}) {
			t.Errorf("%d, %v, %v", w.Words(), w.Both(), w.Sink())
		}
		if s, e := w.Start(1, api.Degrees{}); s != (api.State{}) || e != api.ErrNil {
			t.Errorf("%v, %d", s, e)
		}
		if a, b, send, e := w.Scatter(full.Ctl, full.State, full.Edge, true); a != 0 || b != 0 || send || e != api.ErrNil {
			t.Errorf("%d, %d, %v, %d", a, b, send, e)
		}
		if s, changed, e := w.Apply(full.Ctl, full.Agg, 1, full.State); s != (api.State{}) || changed || e != api.ErrNil {
			t.Errorf("%v, %v, %d", s, changed, e)
		}
		if agg, e := w.Fold(full.Ctl, full.Agg, 1, full.State); agg != (api.State{}) || e != api.ErrNil {
			t.Errorf("%v, %d", agg, e)
		}
		if ctl, done, e := w.Turn(full.Ctl, full.Agg, 1, 1); ctl != (api.Ctl{}) || done || e != api.ErrNil {
			t.Errorf("%v, %v, %d", ctl, done, e)
		}
	}
}

// P11.11: several goroutines at one time.
func TestWovenByMany(t *testing.T) {
	roll, all := dice(10), rows()
	for range 20 {
		c := oddCode(roll, all, 40, false)
		w, e := loom.Weave(c, 200)
		if e != api.OK {
			continue
		}
		var frames []api.Frame
		for range 20 {
			frames = append(frames, oddFrame(roll))
		}
		var group sync.WaitGroup
		for i := range 8 {
			group.Go(func() {
				for j := range frames {
					asRun(t, w, c, frames[(i+j)%len(frames)], 200)
				}
			})
		}
		group.Wait()
	}
}
