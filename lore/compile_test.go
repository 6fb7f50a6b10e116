package lore_test

import (
	"slices"
	"strings"
	"testing"

	"sluice/api"
	"sluice/loom"
	"sluice/lore"
)

// compiles tells a code that loom takes.
func compiles(t testing.TB, l api.Lore, args ...api.LoreArg) api.Code {
	t.Helper()
	c, e := lore.Compile(l, args...)
	if e != api.OK {
		t.Fatalf("P17.4: %s: %d", textOf(l), e)
	}
	if e, hand, at := loom.Check(c); e != api.OK {
		t.Fatalf("P17.4: %s: the code is refused at %d, %d", textOf(l), hand, at)
	}
	return c
}

// isZero tells whether nothing is in a code.
func isZero(c api.Code) bool {
	for _, list := range c.Hands {
		if list != nil {
			return false
		}
	}
	return c.Words == 0 && c.State == [8]api.WordKind{} && c.Agg == [8]api.WordKind{} && c.Ctl == [4]api.WordKind{} && c.MsgA == 0 && c.MsgB == 0 && c.Sink == api.Sink{} && !c.Both
}

// TestCompileLayout: words, kinds, lanes, sink and both.
func TestCompileLayout(t *testing.T) {
	for _, x := range []struct {
		decls string
		want  api.Code
	}{
		{"state x int;", api.Code{Words: 1, State: [8]api.WordKind{1}, MsgA: 1}},
		{"both; state x bool; agg a real; ctl c int; state y real; ctl d bool; agg b int;", api.Code{Words: 2, State: [8]api.WordKind{3, 2}, Agg: [8]api.WordKind{2, 1}, Ctl: [4]api.WordKind{1, 3}, MsgA: 1, Both: true}},
		{"state x int; state t tally; state y real; agg b bool; agg u tally;", api.Code{Words: 8, State: [8]api.WordKind{1, 4, 4, 4, 4, 4, 4, 2}, Agg: [8]api.WordKind{3, 4, 4, 4, 4, 4, 4}, MsgA: 1}},
		{"state x int; lane l int minint into x;", api.Code{Words: 1, State: [8]api.WordKind{1}, MsgA: 1, Sink: api.Sink{A: 0, MonA: api.MonMinInt}}},
		{"state x int; state b bool; lane l bool or into b;", api.Code{Words: 2, State: [8]api.WordKind{1, 3}, MsgA: 3, Sink: api.Sink{A: 1, MonA: api.MonOr}}},
		{"state x int; state t tally; state y real; lane l real max into y; lane m real tally into t;", api.Code{Words: 8, State: [8]api.WordKind{1, 4, 4, 4, 4, 4, 4, 2}, MsgA: 2, MsgB: 2, Sink: api.Sink{A: 7, MonA: api.MonMax, B: 1, MonB: api.MonTally}}},
		{"state x int; state y bool; lane l int nibbles into x; lane m bool and into y;", api.Code{Words: 2, State: [8]api.WordKind{1, 3}, MsgA: 1, MsgB: 3, Sink: api.Sink{A: 0, MonA: api.MonNibbles, B: 1, MonB: api.MonAnd}}},
		{"state x int; state y bool; lane m bool and into y; lane l int nibbles into x;", api.Code{Words: 2, State: [8]api.WordKind{1, 3}, MsgA: 3, MsgB: 1, Sink: api.Sink{A: 1, MonA: api.MonAnd, B: 0, MonB: api.MonNibbles}}},
		{"state a int; state b int; state c int; state d int; state e int; state f int; state g int; state h int; lane l int add into h; ctl i int; ctl j int; ctl k int; ctl m real;", api.Code{Words: 8, State: [8]api.WordKind{1, 1, 1, 1, 1, 1, 1, 1}, Ctl: [4]api.WordKind{1, 1, 1, 2}, MsgA: 1, Sink: api.Sink{A: 7, MonA: api.MonAdd}}},
	} {
		c := compiles(t, read(t, "program p; "+x.decls))
		hands := c.Hands
		c.Hands = [api.Hands][]api.Ins{}
		if c.Words != x.want.Words || c.State != x.want.State || c.Agg != x.want.Agg || c.Ctl != x.want.Ctl || c.MsgA != x.want.MsgA || c.MsgB != x.want.MsgB || c.Sink != x.want.Sink || c.Both != x.want.Both {
			t.Errorf("P17.4: %s: %v, want %v", x.decls, c, x.want)
		}
		for hand, list := range hands {
			if len(list) == 0 {
				t.Errorf("P17.4: %s: no code of %d", x.decls, hand)
			}
		}
	}
	for m, mon := range []string{"min", "max", "minint", "maxint", "add", "and", "or", "nibbles"} {
		for k, kind := range []string{"int", "real", "bool"} {
			c := compiles(t, read(t, "program p; state z int; state x "+kind+"; lane l "+kind+" "+mon+" into x;"))
			if c.MsgA != api.WordKind(k+1) || c.Sink != (api.Sink{A: 1, MonA: api.Monoid(m + 1)}) {
				t.Errorf("P17.4: %s %s: %v", kind, mon, c)
			}
		}
	}
}

func TestCompileErrors(t *testing.T) {
	for _, x := range []struct {
		rest string
		e    api.Errno
	}{
		{"", api.ErrUnknown}, {"state x int; state x int;", api.ErrDoubled}, {"state x int; on fold { done; }", api.ErrUnknown}, {"state x int; on apply { x = 0.5; }", api.ErrTyping}, {"state x int; on scatter { send 1; }", api.ErrLane}, {"state x int; on scatter { " + strings.Repeat("skip; ", 97) + "}", api.ErrMuch}, {"param a int; state x real; lane l int add into x;", api.ErrTyping},
	} {
		l := read(t, "program p; "+x.rest)
		for _, args := range [][]api.LoreArg{nil, someArgs} { // what Check tells goes ahead of the arguments
			if c, e := lore.Compile(l, args...); !isZero(c) || e != x.e {
				t.Errorf("P17.4: %s: %v, %d, want %d", x.rest, c, e, x.e)
			}
		}
	}
	if c, e := lore.Compile(api.Lore{}); !isZero(c) || e != api.ErrTree {
		t.Errorf("P17.4: %d", e)
	}
}

func TestCompileParams(t *testing.T) {
	l := read(t, "program p; param i int; param r real; const k = 1; param b bool; state x int; state y real; state z bool; on start { x = i; y = r; z = b; }")
	good := []api.LoreArg{{Name: "i", Kind: 1}, {Name: "r", Kind: 2}, {Name: "b", Kind: 3}}
	fine := func(args []api.LoreArg, want api.State) {
		t.Helper()
		before := slices.Clone(args)
		c := compiles(t, l, args...)
		x, _, e := loom.Run(c, 0, api.Frame{}, 100)
		y, _, d := lore.Interp(l, args, 0, api.Frame{}, 100)
		if x.State != want || e != api.OK || y.State != want || d != api.OK {
			t.Errorf("P17.4: %v: %v, %d, %v, %d", args, x, e, y, d)
		}
		if !slices.Equal(before, args) {
			t.Errorf("P0.1: %v", args)
		}
	}
	for _, i := range []uint64{0, 1, 1<<63 - 1, 1 << 63, 1<<64 - 1} {
		for _, r := range []uint64{0, 1, 0x3f800000, 0x80000000, 0x7f7fffff, 0x7f800000, 0xff800000} {
			for _, b := range []uint64{0, 1} {
				args := slices.Clone(good)
				args[0].Word, args[1].Word, args[2].Word = i, r, b
				fine(args, api.State{i, r, b})
				slices.Reverse(args)
				fine(args, api.State{i, r, b})
			}
		}
	}
	for what, spoil := range map[string]func(a []api.LoreArg) []api.LoreArg{
		"none":             func(a []api.LoreArg) []api.LoreArg { return nil },
		"one less":         func(a []api.LoreArg) []api.LoreArg { return a[1:] },
		"one twice":        func(a []api.LoreArg) []api.LoreArg { return append(a, a[0]) },
		"one for another":  func(a []api.LoreArg) []api.LoreArg { return append(a[:2], a[0]) },
		"unknown":          func(a []api.LoreArg) []api.LoreArg { return append(a, api.LoreArg{Name: "q", Kind: 1}) },
		"unknown for one":  func(a []api.LoreArg) []api.LoreArg { a[0].Name = "q"; return a },
		"a const":          func(a []api.LoreArg) []api.LoreArg { return append(a, api.LoreArg{Name: "k", Kind: 1}) },
		"a state":          func(a []api.LoreArg) []api.LoreArg { return append(a, api.LoreArg{Name: "x", Kind: 1}) },
		"great letters":    func(a []api.LoreArg) []api.LoreArg { a[0].Name = "I"; return a },
		"no name":          func(a []api.LoreArg) []api.LoreArg { a[0].Name = ""; return a },
		"another kind":     func(a []api.LoreArg) []api.LoreArg { a[0].Kind = 2; return a },
		"another kind too": func(a []api.LoreArg) []api.LoreArg { a[1].Kind = 1; return a },
		"a bool as int":    func(a []api.LoreArg) []api.LoreArg { a[2].Kind = 1; return a },
		"no kind":          func(a []api.LoreArg) []api.LoreArg { a[0].Kind = 0; return a },
		"a tally":          func(a []api.LoreArg) []api.LoreArg { a[1].Kind = 4; return a },
		"below kinds":      func(a []api.LoreArg) []api.LoreArg { a[1].Kind = -1; return a },
		"above reals":      func(a []api.LoreArg) []api.LoreArg { a[1].Word = 1 << 32; return a },
		"far above reals":  func(a []api.LoreArg) []api.LoreArg { a[1].Word = 1<<63 | 0x3f800000; return a },
		"a NaN":            func(a []api.LoreArg) []api.LoreArg { a[1].Word = 0x7fc00000; return a },
		"another NaN":      func(a []api.LoreArg) []api.LoreArg { a[1].Word = 0xff800001; return a },
		"above bools":      func(a []api.LoreArg) []api.LoreArg { a[2].Word = 2; return a },
		"far above bools":  func(a []api.LoreArg) []api.LoreArg { a[2].Word = 1 << 63; return a },
	} {
		args := spoil(slices.Clone(good))
		if c, e := lore.Compile(l, args...); !isZero(c) || e != api.ErrParam {
			t.Errorf("P17.4: %s: %d", what, e)
		}
		if x, n, e := lore.Interp(l, args, 0, api.Frame{}, 100); x != (api.Effect{}) || n != 0 || e != api.ErrParam {
			t.Errorf("P17.5: %s: %d", what, e)
		}
	}
	mere := read(t, "program p; state x int;")
	compiles(t, mere)
	if _, e := lore.Compile(mere, good[0]); e != api.ErrParam {
		t.Errorf("P17.4: %d", e)
	}
}

// TestCompileFull: programs at the limits of a handler have code that fits.
func TestCompileFull(t *testing.T) {
	ands := "let q = " + strings.Repeat("(kb and ", 11) + "kb" + strings.Repeat(")", 11) + "; "
	wide := "kb"
	for range 6 {
		if len(exprOf(t, wide))*2+2 <= 95 {
			wide = "(" + wide + ") or (" + wide + ")"
		}
	}
	deep := strings.Repeat("while kb { ", 8) + "let q = 1; let r = 2; " + strings.Repeat("} ", 8)
	calls := "x = " + strings.Repeat("when(kb, min(1, ", 5) + "1" + strings.Repeat("), x)", 5) + "; "
	for body, hands := range map[string]string{
		strings.Repeat("skip; ", 96): "s", strings.Repeat("send 1; ", 48): "s", strings.Repeat("change; ", 96): "a", strings.Repeat("if kb { keep; } ", 32): "a", ands: "sa", "if " + wide + " { }": "sa", deep: "sa", calls: "a", "if " + strings.Repeat("(", 11) + "kb" + strings.Repeat(" != kb)", 11) + " { }": "sa", "let q = " + strings.Repeat("(pi > (", 1) + "1" + strings.Repeat("))", 1) + ";": "sa", "let a1 = 1; let a2 = 1; let a3 = 1; let a4 = 1; let a5 = 1; let a6 = 0.5; while a1 < 3 { a1 = a1 + a2 + a3; if a6 > 0.5 { a2 = a4; } else { a5 = a3; } }": "sa",
	} {
		for _, hand := range hands {
			h := map[rune]int{'s': api.HandScatter, 'a': api.HandApply}[hand]
			l := read(t, handText(plainDecls, h, body))
			if e, _, at := lore.Check(l); e != api.OK {
				t.Fatalf("%s: %d at %d", body, e, at)
			}
			compiles(t, l, someArgs...)
			plays(t, l, someArgs, h, api.Frame{})
		}
	}
}

// TestCompileApart: what a caller does to a code, nobody else sees.
func TestCompileApart(t *testing.T) {
	l := read(t, hops)
	arg := api.LoreArg{Name: "source", Kind: api.WordInt, Word: 3}
	c := compiles(t, l, arg)
	want, _ := loom.Print(c)
	for hand := range c.Hands {
		for i := range c.Hands[hand] {
			c.Hands[hand][i].Arg = 99
		}
		c.Hands[hand] = append(c.Hands[hand], api.Ins{Op: 99})
	}
	if got, e := loom.Print(compiles(t, l, arg)); got != want || e != api.OK {
		t.Errorf("P0.1: %s", got)
	}
}
