package lore_test

import (
	"slices"
	"strings"
	"testing"

	"sluice/api"
	"sluice/lore"
)

// TestTrees: how operations bind.
func TestTrees(t *testing.T) {
	for text, ops := range map[string][]int{
		"a + b * -c": {4, 4, 4, 5, 9, 7}, "not a == b and c": {4, 4, 12, 6, 4, 18}, "a or b and c": {4, 4, 4, 18, 19}, "a and b or c": {4, 4, 18, 4, 19}, "a - b - c": {4, 4, 8, 4, 8}, "a - (b - c)": {4, 4, 4, 8, 8}, "a / b * c": {4, 4, 10, 4, 9}, "a + b < c * d": {4, 4, 7, 4, 4, 9, 14}, "- -a": {4, 5, 5}, "not not true": {3, 6, 6}, "-a * b": {4, 5, 4, 9}, "-(a * b)": {4, 4, 9, 5}, "not (a or b)": {4, 4, 19, 6}, "not a or b": {4, 6, 4, 19}, "a and not b and c": {4, 4, 6, 18, 4, 18}, "a or b or c": {4, 4, 19, 4, 19}, "(a or b) and c": {4, 4, 19, 4, 18}, "a % 2 == 0": {4, 1, 11, 1, 12},
		"when(a, 1, 2.5)": {4, 1, 2, 20}, "min(real(a), sqrt(b))": {4, 20, 4, 20, 20}, "((((a))))": {4}, "-1": {1, 5}, "vertex": {4}, "max(a < b, not c)": {4, 4, 14, 4, 6, 20}, "a != b": {4, 4, 13}, "a >= b": {4, 4, 17},
	} {
		if x := exprOf(t, text); !sameOps(x, ops) {
			t.Errorf("P17.2: %s: %v", text, x)
		}
	}
	for text, want := range map[string]api.LoreExpr{
		"a":              {{Op: api.LxName, Name: "a"}},
		"round":          {{Op: api.LxName, Name: "round"}},
		"true":           {{Op: api.LxBool, Word: 1}},
		"false":          {{Op: api.LxBool}},
		"shl(a, 3)":      {{Op: api.LxName, Name: "a"}, {Op: api.LxInt, Word: 3}, {Op: api.LxCall, N: 2, Name: "shl"}},
		"when(b, 1, -c)": {{Op: api.LxName, Name: "b"}, {Op: api.LxInt, Word: 1}, {Op: api.LxName, Name: "c"}, {Op: api.LxNeg, N: 1}, {Op: api.LxCall, N: 3, Name: "when"}},
		"a <= 0.5":       {{Op: api.LxName, Name: "a"}, {Op: api.LxReal, Word: 0x3f000000}, {Op: api.LxLe, N: 2}},
	} {
		if x := exprOf(t, text); !slices.Equal(x, want) {
			t.Errorf("P17.2: %s: %v", text, x)
		}
	}
}

// TestDeclarations: the fields of each.
func TestDeclarations(t *testing.T) {
	l := read(t, "program q; const a = 0; const b = -0; const c = -5; const d = 9223372036854775807; const e = -9223372036854775807; const f = 1.5; const g = -1.5; const h = -0.0; const i = true; const j = false; param k bool; state l tally; agg m real; ctl n int; lane o real nibbles into p; lane q bool min into q; both; both;")
	want := []api.LoreDecl{
		{Class: 1, Name: "a", Kind: 1}, {Class: 1, Name: "b", Kind: 1}, {Class: 1, Name: "c", Kind: 1, Word: 1<<64 - 5}, {Class: 1, Name: "d", Kind: 1, Word: 1<<63 - 1}, {Class: 1, Name: "e", Kind: 1, Word: 1<<63 + 1}, {Class: 1, Name: "f", Kind: 2, Word: 0x3fc00000}, {Class: 1, Name: "g", Kind: 2, Word: 0xbfc00000}, {Class: 1, Name: "h", Kind: 2, Word: 0x80000000}, {Class: 1, Name: "i", Kind: 3, Word: 1}, {Class: 1, Name: "j", Kind: 3},
		{Class: 2, Name: "k", Kind: 3}, {Class: 3, Name: "l", Kind: 4}, {Class: 4, Name: "m", Kind: 2}, {Class: 5, Name: "n", Kind: 1}, {Class: 6, Name: "o", Kind: 2, Mon: api.MonNibbles, Into: "p"}, {Class: 6, Name: "q", Kind: 3, Mon: api.MonMin, Into: "q"}, {Class: 7}, {Class: 7},
	}
	if l.Name != "q" || !slices.Equal(l.Decls, want) {
		t.Errorf("P17.2: %v", l)
	}
	for mon, word := range []string{"min", "max", "minint", "maxint", "add", "and", "or", "nibbles", "tally"} {
		if l := read(t, "program p; lane l int "+word+" into x;"); l.Decls[0].Mon != api.MonMin+api.Monoid(mon) {
			t.Errorf("P17.2: %s: %v", word, l)
		}
	}
}

// TestStatements: the fields of each.
func TestStatements(t *testing.T) {
	got := read(t, "program p; on apply { let a = b; c = d; e += f; clear g; if h { skip; } if i { } else { keep; } if j { change; } else if k { done; } else { go; } while l { } send m; send n, o; }").Hands[api.HandApply]
	want := []api.LoreStep{
		{Op: api.LsLet, Name: "a", X: name("b")}, {Op: api.LsSet, Name: "c", X: name("d")}, {Op: api.LsPut, Name: "e", X: name("f")}, {Op: api.LsClear, Name: "g"},
		{Op: api.LsIf, X: name("h"), Then: []api.LoreStep{{Op: api.LsSkip}}},
		{Op: api.LsIf, X: name("i"), Else: []api.LoreStep{{Op: api.LsKeep}}},
		{Op: api.LsIf, X: name("j"), Then: []api.LoreStep{{Op: api.LsChange}}, Else: []api.LoreStep{{Op: api.LsIf, X: name("k"), Then: []api.LoreStep{{Op: api.LsDone}}, Else: []api.LoreStep{{Op: api.LsGo}}}}},
		{Op: api.LsWhile, X: name("l")}, {Op: api.LsSend, X: name("m")}, {Op: api.LsSend, X: name("n"), Y: name("o")},
	}
	if !sameSteps(got, want) {
		t.Errorf("P17.2: %v", got)
	}
	one := read(t, "program p; on fold { if a { } else { if b { } } }")
	other := read(t, "program p; on fold { if a { } else if b { } }")
	if !same(one, other) {
		t.Errorf("P17.2: %v, %v", one, other)
	}
}

// TestNested: 200 nestings of an expression are read, and one more is told where it is opened.
func TestNested(t *testing.T) {
	for _, c := range []struct{ open, close string }{
		{"(", ")"}, {"-", ""}, {"not ", ""}, {"abs(", ")"}, {"min(1, ", ")"}, {"when(a, ", ", c)"}, {"when(a, b, ", ")"}, {"1 + (", ")"}, {"-(", ")"}, {"not (", ")"}, {"(not ", ")"}, {"2 * -min(", ", 3)"},
	} {
		each := strings.Count(c.open, "(") + strings.Count(c.open, "-") + strings.Count(c.open, "not")
		n := 200 / each
		x := strings.Repeat(c.open, n) + "a" + strings.Repeat(c.close, n)
		read(t, inExpr(x))
		if _, e, _ := lore.Parse(inExpr(strings.Repeat(c.open, n+1))); e != api.ErrMuch {
			t.Errorf("P17.2: %s: %d", c.open, e)
		}
	}
	deep := strings.Repeat("(", 199)
	for _, c := range []struct {
		x   string
		col int // of what opens one too many
	}{
		{deep + "((", 201}, {deep + "(-", 201}, {deep + "(not", 201}, {deep + "(abs(", 204}, {deep + "(abs (", 205}, {deep + "-(", 201}, {deep + "- -", 202}, {deep + "not(", 203}, {deep + "not not", 204}, {deep + "abs((", 204}, {deep + "min(1, -", 207}, {deep + "when(a, (", 208}, {deep + "when(-a", 205},
		{deep + "-a * -b - -(", 211}, {deep + "(a) + (a) * abs(b) - (-", 222}, {deep + "not a and not not", 214}, {strings.Repeat("-", 201), 201}, {strings.Repeat("- ", 201), 401}, {strings.Repeat("not ", 201), 801}, {strings.Repeat("(", 201), 201}, {strings.Repeat("abs(", 201), 804},
	} {
		refuse(t, inExpr(c.x), api.ErrMuch, 2, c.col)
	}
	for _, x := range []string{deep + "(", deep + "-", deep + "not", deep + "abs(", deep + "(a", strings.Repeat("-", 200)} { // 200 of them are none too many
		refuse(t, inExpr(x), api.ErrGrammar, 2, len(x)+1)
	}
	refuse(t, inExpr(deep+"(abs a"), api.ErrGrammar, 2, 205)
	refuse(t, inExpr(deep+"(+ not"), api.ErrGrammar, 2, 201)
	refuse(t, inExpr(deep+"(a + not"), api.ErrGrammar, 2, 205)
	long := strings.Repeat("-(-a) + ", 3000) + "a"
	if x := exprOf(t, long); len(x) != 3000*4+1 {
		t.Errorf("P17.2: nestings beside one another: %d", len(x))
	}
	two := "program p; on fold { " + strings.Repeat("send "+deep+"(a"+strings.Repeat(")", 200)+", "+strings.Repeat("-", 200)+"a; ", 3) + "}"
	read(t, two)
}

// TestBlocks: 200 blocks in one another are read, and one more is told at its brace.
func TestBlocks(t *testing.T) {
	begin := "program p; on fold {"
	for _, open := range []string{"if a {", "while a {", "if a { } else {", "if a { } else if b {", "x = 1; if a {"} {
		read(t, begin+strings.Repeat(open, 199)+strings.Repeat("}", 200))
		over := strings.Repeat(open, 199)
		refuse(t, begin+over+"\nif a {", api.ErrMuch, 2, 6)
		refuse(t, begin+over+"\nwhile a {", api.ErrMuch, 2, 9)
		refuse(t, begin+over+"\nwhile a }", api.ErrGrammar, 2, 9)
		refuse(t, begin+over+"\nif ?", api.ErrGlyph, 2, 4)
		refuse(t, begin+over+"\n", api.ErrGrammar, 2, 1)
		read(t, begin+strings.Repeat(open, 198)+strings.Repeat("if a { } else { } while b { } ", 20)+strings.Repeat("}", 199))
	}
	chain := begin + strings.Repeat("if a { } else ", 3000) + "{ } }"
	l := read(t, chain)
	depth := 0
	for steps := l.Hands[api.HandFold]; len(steps) > 0; steps = steps[0].Else {
		depth++
	}
	if depth != 3000 {
		t.Errorf("P17.2: a chain of %d", depth)
	}
	if _, e := lore.Print(l); e != api.OK {
		t.Errorf("P17.3: a chain: %d", e)
	}
}

// TestParseAlone: Parse does not Check.
func TestParseAlone(t *testing.T) {
	l := read(t, "program p; both; both; state x int; state x tally; on start { done; x = y + 1.5; let vertexes = true + shl(1, 99); } on turn { send 1, 2; }")
	if e, _, _ := lore.Check(l); e != api.ErrDoubled {
		t.Errorf("P17.1: %d", e)
	}
	many := "program p; " + strings.Repeat("both; ", 200) + "on fold { " + strings.Repeat("skip; ", 500) + "}"
	if l := read(t, many); len(l.Decls) != 200 || len(l.Hands[3]) != 500 {
		t.Errorf("P17.2: %d, %d", len(l.Decls), len(l.Hands[3]))
	}
}

// TestApart: no two lists of an answer share memory, nor have room that another uses.
func TestApart(t *testing.T) {
	text := "program p; state x int; on start { x = 1; if x { x = 2; } else { x = 3; } send x, x; } on fold { x = x + x; }"
	l := read(t, text)
	first := copyOf(l)
	s := l.Hands[0]
	for _, x := range []api.LoreExpr{s[0].X, s[1].X, s[2].X, s[2].Y, s[1].Then[0].X, s[1].Else[0].X, l.Hands[3][0].X} {
		_ = append(x[:len(x):cap(x)], api.LoreNode{Op: 99})
	}
	for _, list := range [][]api.LoreStep{s, s[1].Then, s[1].Else, l.Hands[3]} {
		_ = append(list, api.LoreStep{Op: 99})
	}
	_ = append(l.Decls, api.LoreDecl{Class: 99})
	if !same(l, first) || !same(read(t, text), first) {
		t.Errorf("P0.1: %v", l)
	}
}
