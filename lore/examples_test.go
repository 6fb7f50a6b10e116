package lore_test

import (
	"testing"

	"sluice/api"
	"sluice/loom"
	"sluice/lore"
)

func TestExample1(t *testing.T) {
	l := read(t, hops)
	if text, e := lore.Print(l); text != hops || e != api.OK {
		t.Errorf("P17.3: %q, %d", text, e)
	}
	if e, hand, at := lore.Check(l); e != api.OK || hand != 0 || at != 0 {
		t.Errorf("P17.1: %d, %d, %d", e, hand, at)
	}
	args := []api.LoreArg{{Name: "source", Kind: api.WordInt, Word: 3}}
	c, e := lore.Compile(l, args...)
	if e != api.OK {
		t.Fatalf("P17.4: %d", e)
	}
	for _, x := range []struct {
		hand  int
		frame api.Frame
		want  api.Effect
		count int
	}{
		{api.HandStart, api.Frame{Vertex: 3}, api.Effect{}, 6},
		{api.HandStart, api.Frame{Vertex: 4}, api.Effect{State: api.State{1000000000}}, 6},
		{api.HandScatter, api.Frame{State: api.State{2}}, api.Effect{A: 3, Flag: true}, 8},
		{api.HandScatter, api.Frame{State: api.State{1000000000}}, api.Effect{}, 4},
		{api.HandFold, api.Frame{Agg: api.State{1, 2, 3, 4, 5, 6, 7, 8}}, api.Effect{Agg: api.State{1, 2, 3, 4, 5, 6, 7, 8}}, 0},
		{api.HandTurn, api.Frame{Ctl: api.Ctl{1, 2, 3, 4}}, api.Effect{Ctl: api.Ctl{1, 2, 3, 4}}, 0},
	} {
		got, n, e := lore.Interp(l, args, x.hand, x.frame, 100)
		if got != x.want || n != x.count || e != api.OK {
			t.Errorf("P17.5: %d: %v, %d, %d", x.hand, got, n, e)
		}
		if got, _, e := loom.Run(c, x.hand, x.frame, 16*n+64); got != x.want || e != api.OK {
			t.Errorf("P17.6: %d: %v, %d", x.hand, got, e)
		}
	}
}

func TestExample2(t *testing.T) {
	want := join(api.LoreNode{Op: api.LxAdd}, name("a"), join(api.LoreNode{Op: api.LxMul}, name("b"), join(api.LoreNode{Op: api.LxNeg}, name("c"))))
	if x := exprOf(t, "a + b * -c"); !sameOps(x, []int{4, 4, 4, 5, 9, 7}) || !sameSteps([]api.LoreStep{{X: x}}, []api.LoreStep{{X: want}}) {
		t.Errorf("P17.2: %v", x)
	}
	if x := exprOf(t, "not a == b and c"); !sameOps(x, []int{4, 4, 12, 6, 4, 18}) {
		t.Errorf("P17.2: %v", x)
	}
	refuse(t, inExpr("a < b < c"), api.ErrGrammar, 2, 7)
}

func TestExample3(t *testing.T) {
	minus := api.LoreNode{Op: api.LxNeg}
	for want, x := range map[string]api.LoreExpr{
		"- -x":        join(minus, join(minus, name("x"))),
		"(a + b) * c": join(api.LoreNode{Op: api.LxMul}, join(api.LoreNode{Op: api.LxAdd}, name("a"), name("b")), name("c")),
		"a - (b - c)": join(api.LoreNode{Op: api.LxSub}, name("a"), join(api.LoreNode{Op: api.LxSub}, name("b"), name("c"))),
	} {
		if got := printExpr(t, x); got != want {
			t.Errorf("P17.3: %s, want %s", got, want)
		}
	}
}

func TestExample4(t *testing.T) {
	l := read(t, "program p; state x int; on turn { if changed == 0 { done; } }")
	for changed, want := range []bool{true, false, false} {
		if x, _, e := lore.Interp(l, nil, api.HandTurn, api.Frame{Changed: uint64(changed)}, 50); x != (api.Effect{Flag: want}) || e != api.OK {
			t.Errorf("P17.5: %d: %v, %d", changed, x, e)
		}
	}
}

func TestExample5(t *testing.T) {
	checked(t, "state x int; on scatter { change; }", api.ErrUnknown, 1, 0)
	checked(t, "state y int; on apply { let x = 1; x = 2.0; }", api.ErrTyping, 2, 2)
}

func TestExample6(t *testing.T) {
	l := read(t, "program p; state x int; on start { let a = 1 / 0; } on fold { while true { } }")
	if x, n, e := lore.Interp(l, nil, api.HandStart, api.Frame{}, 100); x != (api.Effect{}) || n != 4 || e != api.ErrTrapZero {
		t.Errorf("P17.5: %v, %d, %d", x, n, e)
	}
	for _, most := range []int{0, 1, 2, 77, api.MaxFuel} {
		if x, n, e := lore.Interp(l, nil, api.HandFold, api.Frame{}, most); x != (api.Effect{}) || n != most || e != api.ErrFuel {
			t.Errorf("P17.5: %d: %v, %d, %d", most, x, n, e)
		}
	}
}

func TestExample7(t *testing.T) {
	for _, text := range []string{"9223372036854775808", "1.5x", "007a"} {
		refuse(t, inExpr(text), api.ErrGlyph, 2, 1)
	}
	refuse(t, inExpr("3."), api.ErrGlyph, 2, 2)
}

// printExpr prints an expression.
func printExpr(t testing.TB, x api.LoreExpr) string {
	t.Helper()
	l := api.Lore{Name: "p"}
	l.Hands[api.HandFold] = []api.LoreStep{{Op: api.LsSet, Name: "v", X: x}}
	text, e := lore.Print(l)
	const head, tail = "program p;\non fold {\n  v = ", ";\n}\n"
	if e != api.OK || len(text) < len(head)+len(tail) || text[:len(head)] != head || text[len(text)-len(tail):] != tail {
		t.Fatalf("P17.3: %v: %q, %d", x, text, e)
	}
	return text[len(head) : len(text)-len(tail)]
}

// checked checks a program that has these declarations and handlers.
func checked(t testing.TB, rest string, want api.Errno, hand, at int) {
	t.Helper()
	l := read(t, "program p; "+rest)
	before := copyOf(l)
	if e, h, a := lore.Check(l); e != want || h != hand || a != at {
		t.Errorf("P17.1: %.200s: %d, %d, %d, want %d, %d, %d", rest, e, h, a, want, hand, at)
	}
	if !same(l, before) {
		t.Errorf("P0.1: %.200s was changed", rest)
	}
}
