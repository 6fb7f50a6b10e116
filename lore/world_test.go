package lore_test

import (
	"testing"

	"sluice/api"
	"sluice/loom"
	"sluice/lore"
)

// TestWorld: programs at random, each handler as it is meant, as the tests' model has it, and as its code runs (P17.5, P17.6); their texts (P17.3); and the woven program (P17.7).
func TestWorld(t *testing.T) {
	m := &maker{Rand: dice(5)}
	ends := map[api.Errno]int{}
	for range 300 {
		m.fresh()
		l, args := m.l, m.args()
		before := copyOf(l)
		if e, hand, at := lore.Check(l); e != api.OK || hand != 0 || at != 0 {
			t.Fatalf("P17.1: %s: %d, %d, %d", textOf(l), e, hand, at)
		}
		compiles(t, l, args...)
		text := textOf(l)
		if !same(read(t, text), l) {
			t.Fatalf("P17.3: %s", text)
		}
		for range 3 {
			f := m.frame()
			for hand := range api.Hands {
				_, _, e := plays(t, l, args, hand, f)
				ends[e]++
			}
			woven(t, text, l, args, f)
		}
		if !same(l, before) {
			t.Fatalf("P0.1: %s was changed", text)
		}
		if t.Failed() {
			t.FailNow()
		}
	}
	for _, e := range []api.Errno{api.OK, api.ErrFuel, api.ErrTrapInt, api.ErrTrapZero, api.ErrTrapReal} {
		if ends[e] < 5 {
			t.Errorf("only %d of %d", ends[e], e)
		}
	}
}

// woven holds a woven program's methods against the text's handlers, with the frames that loom's chapter gives them.
func woven(t *testing.T, text string, l api.Lore, args []api.LoreArg, f api.Frame) {
	t.Helper()
	const fuel = 16*3000 + 64
	w, e, place := lore.Weave(text, fuel, args...)
	if w == nil || e != api.OK || place != (api.LorePlace{}) {
		t.Fatalf("P17.7: %s: %d at %v", text, e, place)
	}
	c := compiles(t, l, args...)
	if w.Words() != c.Words || w.Both() != c.Both || w.Sink() != c.Sink {
		t.Errorf("P17.7: %d, %v, %v", w.Words(), w.Both(), w.Sink())
	}
	want := func(hand int, f api.Frame) (api.Effect, api.Errno, bool) {
		x, _, e := lore.Interp(l, args, hand, f, 3000)
		return x, e, e != api.ErrFuel
	}
	if x, e, told := want(api.HandStart, api.Frame{Vertex: f.Vertex, Degrees: f.Degrees}); told {
		if s, d := w.Start(f.Vertex, f.Degrees); s != x.State || d != e {
			t.Errorf("P17.7: Start: %v, %d, want %v, %d", s, d, x, e)
		}
	}
	if x, e, told := want(api.HandScatter, api.Frame{State: f.State, Ctl: f.Ctl, Edge: f.Edge, Back: f.Back}); told {
		if a, b, send, d := w.Scatter(f.Ctl, f.State, f.Edge, f.Back); a != x.A || b != x.B || send != x.Flag || d != e {
			t.Errorf("P17.7: Scatter: %d, %d, %v, %d, want %v, %d", a, b, send, d, x, e)
		}
	}
	if x, e, told := want(api.HandApply, api.Frame{State: f.State, Agg: f.Agg, Ctl: f.Ctl, Vertex: f.Vertex}); told {
		if s, changed, d := w.Apply(f.Ctl, f.Agg, f.Vertex, f.State); s != x.State || changed != x.Flag || d != e {
			t.Errorf("P17.7: Apply: %v, %v, %d, want %v, %d", s, changed, d, x, e)
		}
	}
	if x, e, told := want(api.HandFold, api.Frame{State: f.State, Agg: f.Agg, Ctl: f.Ctl, Vertex: f.Vertex}); told {
		if s, d := w.Fold(f.Ctl, f.Agg, f.Vertex, f.State); s != x.Agg || d != e {
			t.Errorf("P17.7: Fold: %v, %d, want %v, %d", s, d, x, e)
		}
	}
	if x, e, told := want(api.HandTurn, api.Frame{Agg: f.Agg, Ctl: f.Ctl, Changed: f.Changed, Round: f.Round}); told {
		if c, done, d := w.Turn(f.Ctl, f.Agg, f.Changed, f.Round); c != x.Ctl || done != x.Flag || d != e {
			t.Errorf("P17.7: Turn: %v, %v, %d, want %v, %d", c, done, d, x, e)
		}
	}
}

// TestSame: each call answers the same each time, whatever was asked between.
func TestSame(t *testing.T) {
	m := &maker{Rand: dice(5)}
	type world struct {
		l    api.Lore
		args []api.LoreArg
		text string
		code string
	}
	var worlds []world
	for range 40 {
		m.fresh()
		w := world{l: m.l, args: m.args()}
		w.text = textOf(w.l)
		w.code, _ = loom.Print(compiles(t, w.l, w.args...))
		worlds = append(worlds, w)
	}
	for range 3 {
		for _, w := range worlds {
			if code, _ := loom.Print(compiles(t, w.l, w.args...)); code != w.code || textOf(w.l) != w.text {
				t.Errorf("P0.1: %s", w.text)
			}
		}
	}
}
