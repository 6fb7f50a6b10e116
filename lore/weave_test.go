package lore_test

import (
	"testing"

	"sluice/api"
	"sluice/lore"
	"sluice/wheel"
)

func TestWeaveErrors(t *testing.T) {
	source := api.LoreArg{Name: "source", Kind: api.WordInt, Word: 3}
	none := api.LorePlace{}
	for _, c := range []struct {
		text  string
		fuel  int
		args  []api.LoreArg
		e     api.Errno
		place api.LorePlace
	}{
		{"program p;\n ?", 5, nil, api.ErrGlyph, api.LorePlace{Line: 2, Col: 2}}, {"", 0, nil, api.ErrGrammar, api.LorePlace{Line: 1, Col: 1}}, {"program p; on start { } on start", 0, nil, api.ErrDoubled, api.LorePlace{Line: 1, Col: 28}}, {string(make([]byte, api.MaxLore+1)), 0, nil, api.ErrLong, api.LorePlace{Line: 1, Col: 1}},
		{"program p;", 5, nil, api.ErrUnknown, none}, {"program p; state x int; on fold { done; }", 0, []api.LoreArg{source}, api.ErrUnknown, none}, {hops, 5, nil, api.ErrParam, none}, {hops, 0, nil, api.ErrParam, none}, {hops, 5, []api.LoreArg{source, source}, api.ErrParam, none},
		{hops, 0, []api.LoreArg{source}, api.ErrArg, none}, {hops, -1, []api.LoreArg{source}, api.ErrArg, none}, {hops, api.MaxFuel + 1, []api.LoreArg{source}, api.ErrArg, none},
	} {
		if w, e, place := lore.Weave(c.text, c.fuel, c.args...); w != nil || e != c.e || place != c.place {
			t.Errorf("P17.7: %.60q: %v, %d at %v, want %d at %v", c.text, w, e, place, c.e, c.place)
		}
	}
	for _, fuel := range []int{1, api.MaxFuel} {
		if w, e, place := lore.Weave(hops, fuel, source); w == nil || e != api.OK || place != none {
			t.Errorf("P17.7: %d: %d at %v", fuel, e, place)
		}
	}
}

// TestWeaveFuel: a woven program has the fuel that it was given.
func TestWeaveFuel(t *testing.T) {
	text := "program p; state x int; on start { while x < 100 { x = x + 1; } }"
	for fuel, want := range map[int]api.Errno{5: api.ErrFuel, 100: api.ErrFuel, 16*(101*4+100*4) + 64: api.OK} {
		w, e, _ := lore.Weave(text, fuel)
		if e != api.OK {
			t.Fatalf("P17.7: %d", e)
		}
		if s, e := w.Start(1, api.Degrees{}); e != want || want == api.OK && s != (api.State{100}) {
			t.Errorf("P17.7: %d: %v, %d", fuel, s, e)
		}
	}
}

// TestWeaveRuns: a program of the chapter's kind over a graph, with its rounds.
func TestWeaveRuns(t *testing.T) {
	text := `program hops;
const far = 1000000000;
param source int;
state best int;
state told int;
lane step int minint into best;
on start {
  best = when(vertex == source, 0, far);
  told = far;
}
on scatter {
  if best < far { send best + 1; }
}
on apply {
  if best < told { told = best; change; }
}
on turn {
  if changed == 0 { done; }
}
`
	w, e, _ := lore.Weave(text, 1000, api.LoreArg{Name: "source", Kind: api.WordInt, Word: 1})
	if e != api.OK {
		t.Fatalf("P17.7: %d", e)
	}
	edges := []api.Edge{{Src: 1, Dst: 2}, {Src: 2, Dst: 3}, {Src: 1, Dst: 3}, {Src: 3, Dst: 4}, {Src: 0, Dst: 1}}
	states, stats, e := wheel.Memory(6, false, edges, w, 100, 2)
	if e != api.OK || stats.Rounds == 0 {
		t.Fatalf("P17.7: %v, %d", stats, e)
	}
	for v, want := range []uint64{1000000000, 0, 1, 1, 2, 1000000000} {
		if states[v][0] != want {
			t.Errorf("P17.7: vertex %d: %v", v, states[v])
		}
	}
}
