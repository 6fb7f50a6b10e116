package lore_test

import (
	"math/rand/v2"
	"slices"
	"strings"
	"testing"

	"sluice/api"
	"sluice/lore"
)

func TestPrintExpressions(t *testing.T) {
	for _, text := range []string{
		"a", "0", "7", "9223372036854775807", "true", "false", "vertex", "1.50000000e+00", "0.00000000e+00", "1.40129846e-45", "3.40282347e+38",
		"-x", "- -x", "- - -x", "-1", "- -1", "-1.50000000e+00", "-(a + b)", "-(a * b)", "-abs(a)", "-(not a)", "-(a < b)", "not a", "not not a", "not -a", "not a + b", "not a == b", "not (a and b)", "not (a or b)", "not min(a, b)", "not (not a) == b",
		"a + b", "a + b + c", "a + (b + c)", "a - b - c", "a - (b - c)", "a - b + c", "a - (b + c)", "a + -b", "a - -b", "-a - b", "(a + b) * c", "a * (b + c)", "a * b + c", "a + b * c", "a * b * c", "a * (b * c)", "a / b % c", "a / (b % c)", "a % b / c", "a * -b", "-a * b", "-(a / b)", "a * (not b)", "(not a) * b", "a + (not b)", "(not a) + b", "a + (b < c)", "(a < b) + c", "(a and b) + c",
		"a == b", "a == (b == c)", "(a == b) == c", "(a < b) != (c < d)", "a + b <= c + d", "a > -b", "(not a) == b", "a == (not b)", "(a and b) == c", "a == (b or c)", "a >= b * c",
		"a and b", "a and b and c", "a and (b and c)", "a and not b", "not a and b", "not a and not b", "a and (b or c)", "(a or b) and c", "a and b < c", "a or b", "a or b or c", "a or (b or c)", "a or b and c", "a and b or c", "a or not b", "a or b == c", "not (not a and b)",
		"min(a, b)", "min(a or b, not c)", "when(a < b, a, -b)", "when(a, (b), c)", "abs(- -a)", "max(min(a, b), total(t)) * 2", "shl(a, 3) + shr(b, 4)", "real(int(sqrt(a)))", "band(bor(a, b), bxor(c, d))",
	} {
		x := exprOf(t, text)
		if got := printExpr(t, x); got != strings.ReplaceAll(text, "(b), c)", "b, c)") {
			t.Errorf("P17.3: %s: %s", text, got)
		}
	}
}

// TestPrintShapes: of every tree of two operations the text is read again as it was, and none of its brackets can be spared.
func TestPrintShapes(t *testing.T) {
	for outer := api.LxNeg; outer <= api.LxCall; outer++ {
		for inner := api.LxNeg; inner <= api.LxCall; inner++ {
			for _, most := range []int{api.LxNeg, api.LxAdd, api.LxEq, api.LxOr} {
				low := operation(most, name("a"), name("b"))
				mid := operation(inner, low, name("c"))
				for _, x := range []api.LoreExpr{operation(outer, mid, name("d")), operation(outer, name("d"), mid), operation(outer, mid, mid)} {
					isSpare(t, x)
				}
			}
		}
	}
}

// operation is one on so many of the operands as it has.
func operation(op int, under ...api.LoreExpr) api.LoreExpr {
	if op == api.LxCall {
		return join(api.LoreNode{Op: op, Name: "max"}, under[0], under[1])
	}
	return join(api.LoreNode{Op: op}, under[:arity(op, "")]...)
}

// isSpare tells that an expression's text is read again, and that without any pair of its brackets it would be another's or none; but for those of calls.
func isSpare(t *testing.T, x api.LoreExpr) {
	t.Helper()
	text := printExpr(t, x)
	if got := exprOf(t, text); !slices.Equal(got, x) {
		t.Errorf("P17.3: %s: %v, want %v", text, got, x)
	}
	for i, c := range []byte(text) {
		if c != '(' || i > 0 && text[i-1] >= 'a' && text[i-1] <= 'z' {
			continue
		}
		end, open := i, 0
		for {
			open += strings.Count(text[end:end+1], "(") - strings.Count(text[end:end+1], ")")
			if open == 0 {
				break
			}
			end++
		}
		without := text[:i] + " " + text[i+1:end] + " " + text[end+1:]
		if l, e, _ := lore.Parse(inExpr(without)); e == api.OK && slices.Equal(l.Hands[0][0].X, x) {
			t.Errorf("P17.3: %s is as good as %s", without, text)
		}
	}
}

func TestPrintProgram(t *testing.T) {
	loose := "program p;both;const a=-5;const r=0.5;const m=-0.5;const z=-0.0;const n=-9223372036854775807;const u=false;const v=true;param k int;state t tally;state x bool;agg g real;ctl c int;lane l real tally into t;lane o bool nibbles into x;" +
		"on turn{if changed==0{done;}else if round<3{let y=1;}else{while true{go;}}}on fold{}on start{x=((1));t+=real(2);clear t;}on scatter{send 1;send a,b;skip;if a{}if a{}else{}if a{skip;}else{if b{}else{}}if a{}else{if b{}skip;}while a{}}on apply{change;keep;}"
	want := `program p;
both;
const a = -5;
const r = 5.00000000e-01;
const m = -5.00000000e-01;
const z = -0.00000000e+00;
const n = -9223372036854775807;
const u = false;
const v = true;
param k int;
state t tally;
state x bool;
agg g real;
ctl c int;
lane l real tally into t;
lane o bool nibbles into x;
on start {
  x = 1;
  t += real(2);
  clear t;
}
on scatter {
  send 1;
  send a, b;
  skip;
  if a {
  }
  if a {
  }
  if a {
    skip;
  } else if b {
  }
  if a {
  } else {
    if b {
    }
    skip;
  }
  while a {
  }
}
on apply {
  change;
  keep;
}
on turn {
  if changed == 0 {
    done;
  } else if round < 3 {
    let y = 1;
  } else {
    while true {
      go;
    }
  }
}
`
	l := read(t, loose)
	before := copyOf(l)
	got, e := lore.Print(l)
	if got != want || e != api.OK {
		t.Errorf("P17.3: %s, %d", got, e)
	}
	if !same(l, before) {
		t.Errorf("P0.1: it was changed")
	}
	if again, e := lore.Print(read(t, got)); again != want || e != api.OK {
		t.Errorf("P17.3: %s, %d", again, e)
	}
	if got, e := lore.Print(api.Lore{Name: "p"}); got != "program p;\n" || e != api.OK {
		t.Errorf("P17.3: %q, %d", got, e)
	}
	for k, kind := range []string{"int", "real", "bool", "tally"} {
		l := api.Lore{Name: "p", Decls: []api.LoreDecl{{Class: api.LoreAgg, Name: "x", Kind: api.WordInt + api.WordKind(k)}}}
		if got, _ := lore.Print(l); got != "program p;\nagg x "+kind+";\n" {
			t.Errorf("P17.3: %q", got)
		}
	}
}

// deepExpr nests so many operations.
func deepExpr(n int, wrap func(x api.LoreExpr) api.LoreExpr) api.LoreExpr {
	x := name("a")
	for range n {
		x = wrap(x)
	}
	return x
}

// TestPrintNested: what Parse would not take is no tree to Print; to Check it is one.
func TestPrintNested(t *testing.T) {
	with := func(x api.LoreExpr) api.Lore {
		l := api.Lore{Name: "p"}
		l.Hands[api.HandFold] = []api.LoreStep{{Op: api.LsSend, X: name("b"), Y: x}}
		return l
	}
	for what, c := range map[string]struct {
		wrap func(x api.LoreExpr) api.LoreExpr
		most int
	}{
		"neg":   {func(x api.LoreExpr) api.LoreExpr { return operation(api.LxNeg, x) }, 200},
		"not":   {func(x api.LoreExpr) api.LoreExpr { return operation(api.LxNot, x) }, 200},
		"call":  {func(x api.LoreExpr) api.LoreExpr { return operation(api.LxCall, name("b"), x) }, 200},
		"right": {func(x api.LoreExpr) api.LoreExpr { return operation(api.LxSub, name("b"), x) }, 201}, // brackets of all but the outermost; the last has leaves
		"tests": {func(x api.LoreExpr) api.LoreExpr { return operation(api.LxLt, x, name("b")) }, 201},
		"both":  {func(x api.LoreExpr) api.LoreExpr { return operation(api.LxNeg, operation(api.LxAdd, x, name("b"))) }, 100},
	} {
		x := deepExpr(c.most, c.wrap)
		isTree(t, what, with(x))
		l := with(c.wrap(x))
		if text, e := lore.Print(l); text != "" || e != api.ErrTree {
			t.Errorf("P17.3: %s: %d", what, e)
		}
		if e, hand, at := lore.Check(l); e != api.ErrUnknown || hand != -1 || at != 0 {
			t.Errorf("P17.1: %s: %d, %d, %d", what, e, hand, at)
		}
	}
	left := deepExpr(20000, func(x api.LoreExpr) api.LoreExpr {
		return append(x, api.LoreNode{Op: api.LxName, Name: "b"}, api.LoreNode{Op: api.LxSub, N: 2})
	})
	if text, e := lore.Print(with(left)); e != api.OK || len(text) < 80000 {
		t.Errorf("P17.3: left: %d", e)
	}
	for what, wrap := range map[string]func(s []api.LoreStep) []api.LoreStep{
		"if":    func(s []api.LoreStep) []api.LoreStep { return []api.LoreStep{{Op: api.LsIf, X: name("a"), Then: s}} },
		"while": func(s []api.LoreStep) []api.LoreStep { return []api.LoreStep{{Op: api.LsWhile, X: name("a"), Then: s}} },
		"else": func(s []api.LoreStep) []api.LoreStep {
			return []api.LoreStep{{Op: api.LsIf, X: name("a"), Else: append(s, api.LoreStep{Op: api.LsSkip})}}
		},
	} {
		l := api.Lore{Name: "p"}
		steps := []api.LoreStep{{Op: api.LsSkip}}
		for range 199 {
			steps = wrap(steps)
		}
		l.Hands[2] = steps
		if text, e := lore.Print(l); e != api.OK || len(text) <= api.MaxLore || !same(read(t, looseText(l)), l) { // all its blanks make it longer than Parse takes
			t.Errorf("P17.3: %s: %d", what, e)
		}
		l.Hands[2] = wrap(steps)
		if text, e := lore.Print(l); text != "" || e != api.ErrTree {
			t.Errorf("P17.3: %s: %d", what, e)
		}
		if e, _, _ := lore.Check(l); e != api.ErrUnknown {
			t.Errorf("P17.1: %s: %d", what, e)
		}
	}
	chain := []api.LoreStep{{Op: api.LsIf, X: name("a")}}
	for range 1000 { // blocks of an else if stand in no other
		chain = []api.LoreStep{{Op: api.LsIf, X: name("a"), Else: chain}}
	}
	l := api.Lore{Name: "p"}
	l.Hands[2] = chain
	isTree(t, "a chain", l)
}

// wild makes trees that a text can give, whatever their kinds and names.
type wild struct{ *rand.Rand }

func (w wild) name() string {
	return pickOne(w.Rand, "a", "b", "x", "y", "t", "_", "Q9", "programs", strings.Repeat("n", 24))
}

func (w wild) expr(deep int) api.LoreExpr {
	if deep == 0 || w.IntN(5) == 0 {
		return api.LoreExpr{pickOne(w.Rand,
			api.LoreNode{Op: api.LxInt, Word: w.Uint64() >> (1 + w.IntN(63))},
			api.LoreNode{Op: api.LxReal, Word: uint64(w.Uint32N(0x7f800000))},
			api.LoreNode{Op: api.LxBool, Word: w.Uint64N(2)},
			api.LoreNode{Op: api.LxName, Name: w.name()},
			api.LoreNode{Op: api.LxName, Name: pickOne(w.Rand, "vertex", "outdeg", "indeg", "src", "dst", "weight", "realweight", "back", "changed", "round")},
		)}
	}
	top := api.LoreNode{Op: api.LxNeg + w.IntN(16)}
	if top.Op == api.LxCall {
		top.Name = pickOne(w.Rand, "min", "max", "abs", "real", "int", "sqrt", "total", "when", "band", "bor", "bxor", "shl", "shr")
	}
	var under []api.LoreExpr
	for range arity(top.Op, top.Name) {
		under = append(under, w.expr(deep-1))
	}
	return join(top, under...)
}

func (w wild) steps(deep int) []api.LoreStep {
	var out []api.LoreStep
	for range w.IntN(4) {
		s := api.LoreStep{Op: api.LsLet + w.IntN(12)}
		if s.Op <= api.LsClear {
			s.Name = w.name()
		}
		if s.Op != api.LsClear && s.Op <= api.LsSend {
			s.X = w.expr(w.IntN(6))
		}
		if s.Op == api.LsSend && w.IntN(2) == 0 {
			s.Y = w.expr(w.IntN(6))
		}
		if (s.Op == api.LsIf || s.Op == api.LsWhile) && deep > 0 {
			s.Then = w.steps(deep - 1)
		}
		if s.Op == api.LsIf && deep > 0 {
			s.Else = w.steps(deep - 1)
		}
		out = append(out, s)
	}
	return out
}

func (w wild) decl() api.LoreDecl {
	d := api.LoreDecl{Class: 1 + w.IntN(7)}
	if d.Class == api.LoreBoth {
		return d
	}
	d.Name, d.Kind = w.name(), api.WordKind(1+w.IntN(3))
	switch d.Class {
	case api.LoreConst:
		d.Word = [...]uint64{1: w.Uint64() | 1, 2: uint64(w.Uint32N(0x7f800000) | w.Uint32N(2)<<31), 3: w.Uint64N(2)}[d.Kind]
	case api.LoreLane:
		d.Mon, d.Into = api.Monoid(1+w.IntN(9)), w.name()
	case api.LoreState, api.LoreAgg:
		d.Kind += api.WordKind(w.IntN(2))
	}
	return d
}

func (w wild) program() api.Lore {
	l := api.Lore{Name: w.name()}
	for range w.IntN(6) {
		l.Decls = append(l.Decls, w.decl())
	}
	for hand := range l.Hands {
		l.Hands[hand] = w.steps(4)
	}
	return l
}

// TestPrintWild: Parse of Print gives the tree again, and Print of Parse a normal form (P17.3); brackets, blanks and comments change nothing (P17.8).
func TestPrintWild(t *testing.T) {
	w := wild{dice(3)}
	for range 1000 {
		l := w.program()
		before := copyOf(l)
		text, e := lore.Print(l)
		if e != api.OK || !same(l, before) {
			t.Fatalf("P17.3: %v: %d", l, e)
		}
		if got := read(t, text); !same(got, l) {
			t.Fatalf("P17.3: %s: %v, want %v", text, got, l)
		}
		isNormal(t, text)
		other := shake(w.Rand, looseText(l))
		if got := read(t, other); !same(got, l) {
			t.Fatalf("P17.8: %s: %v, want %v", other, got, l)
		}
		if again, _ := lore.Print(read(t, shake(w.Rand, text))); again != text {
			t.Fatalf("P17.8: %s, want %s", again, text)
		}
		if len(l.Hands[0]) > 0 && len(l.Hands[0][0].X) > 0 {
			isSpare(t, l.Hands[0][0].X)
		}
	}
}

// isNormal looks at the lines of a text.
func isNormal(t *testing.T, text string) {
	t.Helper()
	if !strings.HasSuffix(text, "\n") {
		t.Errorf("P17.3: its end: %q", text)
	}
	deep := 0
	for line := range strings.SplitSeq(strings.TrimSuffix(text, "\n"), "\n") {
		body := strings.TrimLeft(line, " ")
		if strings.HasPrefix(body, "}") {
			deep--
		}
		if len(line)-len(body) != 2*deep || body == "" || strings.TrimRight(body, " ") != body || strings.Contains(body, "  ") {
			t.Errorf("P17.3: the line %q at depth %d", line, deep)
		}
		if last := body[len(body)-1]; last != ';' && last != '{' && body != "}" {
			t.Errorf("P17.3: the line %q", line)
		}
		if strings.HasSuffix(body, "{") {
			deep++
		}
	}
}

// shake puts blanks and comments between the tokens of a text; those that need none may lose theirs.
func shake(r *rand.Rand, text string) string {
	_, texts, _ := cut(text)
	var out strings.Builder
	inWord := func(s string) bool { return s != "" && (tokenName(s)[0] != '\'' || s[0] >= 'a' && s[0] <= 'z') }
	last := ""
	for _, s := range texts {
		must := inWord(last) && inWord(s) || last != "" && strings.Contains(" == += != <= >= // ", " "+last[len(last)-1:]+s[:1]+" ")
		gap := pickOne(r, "", "", " ", "\n", "\t\r", "// ?\n", " //\n//(\n")
		if must && gap == "" {
			gap = " "
		}
		if gap != "" && gap[0] == '/' && last == "/" {
			gap = " " + gap
		}
		out.WriteString(gap + s)
		last = s
	}
	return out.String() + pickOne(r, "", "\n", "// end", " \t")
}
