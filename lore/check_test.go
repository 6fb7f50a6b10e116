package lore_test

import (
	"slices"
	"strconv"
	"strings"
	"testing"

	"sluice/api"
	"sluice/lore"
)

func either[T any](is bool, yes, no T) T {
	if is {
		return yes
	}
	return no
}

// inHand checks a handler's body; with OK hand and at are 0.
func inHand(t testing.TB, decls string, hand int, body string, want api.Errno, at int) {
	t.Helper()
	h := hand
	if want == api.OK {
		h, at = 0, 0
	}
	checked(t, decls+"on "+handNames[hand]+" { "+body+" }", want, h, at)
}

func TestCheckDeclarations(t *testing.T) {
	states := func(n int) string {
		s := ""
		for i := range n {
			s += "state s" + strconv.Itoa(i) + " int; "
		}
		return s
	}
	consts := func(n int) string {
		s := ""
		for i := range n {
			s += "const c" + strconv.Itoa(i) + " = 1; "
		}
		return s
	}
	for _, c := range []struct {
		decls string
		e     api.Errno
		at    int
	}{
		{"state x int; " + consts(47), api.OK, 0}, {"state x int; " + consts(48), api.ErrMuch, 0}, {consts(49), api.ErrMuch, 0}, {consts(48), api.ErrUnknown, 48}, {strings.Repeat("both; ", 49), api.ErrMuch, 0}, {strings.Repeat("both; ", 48), api.ErrDoubled, 1},
		{"", api.ErrUnknown, 0}, {"const a = 1; agg b int; ctl c int; param d int; both;", api.ErrUnknown, 5},
		{states(8), api.OK, 0}, {states(9), api.ErrMuch, 8}, {"state t tally; state a int; state b int;", api.OK, 0}, {"state t tally; state a int; state b int; state c int;", api.ErrMuch, 3}, {"state a int; state b int; state t tally;", api.OK, 0}, {"state a int; state b int; state c int; state t tally;", api.ErrMuch, 3}, {"state t tally; state u tally;", api.ErrMuch, 1}, {"state t tally; agg t2 tally;", api.OK, 0},
		{"agg t tally; agg u tally;", api.ErrMuch, 1}, {strings.ReplaceAll(states(8), "state", "agg") + "state x int;", api.OK, 0}, {strings.ReplaceAll(states(9), "state", "agg") + "state x int;", api.ErrMuch, 8}, {"agg t tally; agg a int; agg b int; agg c int;", api.ErrMuch, 3}, {"agg a int; agg b int; agg c int; agg t tally;", api.ErrMuch, 3},
		{"state x int; ctl a int; ctl b real; ctl c bool; ctl d int;", api.OK, 0}, {"ctl a int; ctl b int; ctl c int; ctl d int; ctl e int;", api.ErrMuch, 4},
		{"state x int; state y int; lane l int add into x; lane m int add into y;", api.OK, 0}, {"state x int; state y int; state z int; lane l int add into x; lane m int add into y; lane n int add into z;", api.ErrMuch, 5}, {"state x int; state y int; lane l int add into x; lane m int add into y; lane n bool add into q;", api.ErrMuch, 4}, {"state x int; state y int; lane l int add into x; lane m int add into y; lane l bool add into q;", api.ErrDoubled, 4},
		{"lane l int add into x; state x int;", api.ErrUnknown, 0}, {"agg x int; lane l int add into x; state y int;", api.ErrUnknown, 1}, {"ctl x int; lane l int add into x; state y int;", api.ErrUnknown, 1}, {"const x = 1; lane l int add into x; state y int;", api.ErrUnknown, 1}, {"param x int; lane l int add into x; state y int;", api.ErrUnknown, 1}, {"state x int; lane l int add into x; lane m int add into l;", api.ErrUnknown, 2}, {"state x int; lane l int add into l;", api.ErrUnknown, 1}, {"state x int; lane l real tally into p;", api.ErrUnknown, 1},
		{"state x int; lane l real add into x;", api.ErrTyping, 1}, {"state x bool; lane l int add into x;", api.ErrTyping, 1}, {"state x real; lane l bool min into x;", api.ErrTyping, 1}, {"state t tally; lane l real add into t;", api.ErrTyping, 1}, {"state t tally; lane l int tally into t;", api.ErrTyping, 1}, {"state t tally; lane l bool tally into t;", api.ErrTyping, 1}, {"state y real; lane l real tally into y;", api.ErrTyping, 1}, {"state y int; lane l int tally into y;", api.ErrTyping, 1}, {"state t tally; lane l real tally into t;", api.OK, 0},
		{"state x int; lane l int add into x; lane m int add into x;", api.ErrTyping, 2}, {"state t tally; lane l real tally into t; lane m real tally into t;", api.ErrTyping, 2}, {"state t tally; state y real; lane l real tally into t; lane m real min into y;", api.OK, 0}, {"state y real; state t tally; lane m real min into y; lane l real tally into t;", api.OK, 0},
		{"state x int; both; both;", api.ErrDoubled, 2}, {"both; both; const a = 1; const a = 1;", api.ErrDoubled, 1}, {"state p int;", api.OK, 0}, {"state both_ int; both;", api.OK, 0},
		{"state x int; lane l int add into q; const x = 1;", api.ErrUnknown, 1}, {"const a = 1; const a = 2; lane l int add into q;", api.ErrDoubled, 1}, {states(8) + "state s0 int;", api.ErrDoubled, 8}, {states(8) + "state s8 tally;", api.ErrMuch, 8},
	} {
		hand := -1
		if c.e == api.OK {
			hand = 0
		}
		checked(t, c.decls, c.e, hand, c.at)
		checked(t, c.decls+" on fold { done; }", either(c.e == api.OK, api.ErrUnknown, c.e), either(c.e == api.OK, 3, -1), c.at)
	}
	for _, mon := range []string{"min", "max", "minint", "maxint", "add", "and", "or", "nibbles"} {
		for _, kind := range []string{"int", "real", "bool"} {
			for _, into := range []string{"int", "real", "bool", "tally"} {
				e, hand, at := api.OK, 0, 0
				if kind != into {
					e, hand, at = api.ErrTyping, -1, 1
				}
				checked(t, "state x "+into+"; lane l "+kind+" "+mon+" into x;", e, hand, at)
			}
		}
	}
	classes := []string{"const a = 1;", "const a = 1.5;", "param a int;", "state a int;", "agg a int;", "ctl a int;", "lane a int add into x;"}
	for _, one := range classes {
		for _, other := range classes {
			checked(t, "state x int; "+one+" "+other, api.ErrDoubled, -1, 2)
			twice := one[0] == 'l' && other[0] == 'l' // lanes into one word
			checked(t, "state x int; "+one+" "+strings.Replace(other, " a ", " A ", 1), either(twice, api.ErrTyping, api.OK), either(twice, -1, 0), either(twice, 2, 0))
		}
	}
}

// TestCheckStanding: which statement may stand where, and what it may name.
func TestCheckStanding(t *testing.T) {
	may := map[string]string{
		"send 1;": "01000", "skip;": "01000", "change;": "00100", "keep;": "00100", "done;": "00001", "go;": "00001", "let q = 1;": "11111", "if kb { }": "11111", "while kb { }": "11111",
		"x = 1;": "10100", "y = 0.5;": "10100", "b = true;": "10100", "gi = 1;": "00010", "gr = 0.5;": "00010", "gb = true;": "00010", "ci = 1;": "00001", "cr = 0.5;": "00001", "cb = true;": "00001",
		"ki = 1;": "00000", "kr = 0.5;": "00000", "pi = 1;": "00000", "m = 1;": "00000", "p = 1;": "00000", "nothing = 1;": "00000",
		"x += 0.5;": "00000", "y += 0.5;": "00000", "gr += 0.5;": "00000", "kr += 0.5;": "00000", "q += 0.5;": "00000", "clear x;": "00000", "clear y;": "00000", "clear q;": "00000", "clear gi;": "00000",
	}
	sums := map[string]string{"t += 0.5;": "10100", "s += 0.5;": "00010", "clear t;": "10100", "clear s;": "00000", "t = 0.5;": "00000", "s = 0.5;": "00000", "w += 0.5;": "00000", "send 0.5, 1;": "01000"}
	for decls, table := range map[string]map[string]string{plainDecls: may, sumDecls: sums} {
		for body, hands := range table {
			for hand := range handNames {
				want := api.ErrUnknown
				if hands[hand] == '1' {
					want = api.OK
				}
				inHand(t, decls, hand, body, want, 0)
				inHand(t, decls, hand, "if true { let u = 1; u = 2; } else { "+body+" }", want, 6)
				inHand(t, decls, hand, "let u = 1; "+body, want, 2)
			}
		}
	}
	for hand := range handNames { // a let may be set wherever it is seen
		inHand(t, plainDecls, hand, "let q = 1; let r = 0.5; let u = true; q = 2; r = 0.25; u = false; while u { q = 3; if u { q = 4; } }", api.OK, 0)
		inHand(t, plainDecls, hand, "let q = 0.5; q += 0.5;", api.ErrUnknown, 2)
		inHand(t, plainDecls, hand, "if true { let q = 1; } q = 2;", api.ErrUnknown, 4)
		inHand(t, plainDecls, hand, "if true { let q = 1; } else { q = 2; }", api.ErrUnknown, 4)
		inHand(t, plainDecls, hand, "while true { let q = 1; } let r = q;", api.ErrUnknown, 5)
		inHand(t, plainDecls, hand, "q = 2; let q = 1;", api.ErrUnknown, 0)
		inHand(t, plainDecls, hand, "let q = q;", api.ErrUnknown, 1)
		inHand(t, plainDecls, hand, "if true { let q = 1; } let q = 0.5; q = 1.5;", api.OK, 0)
		inHand(t, plainDecls, hand, "if true { let q = 1; } else { let q = 0.5; q = 1.5; } while true { let q = true; q = false; }", api.OK, 0)
	}
	checked(t, plainDecls+"on fold { let q = 1; } on turn { q = 1; }", api.ErrUnknown, 4, 0)
}

// TestCheckReading: which name may be read where.
func TestCheckReading(t *testing.T) {
	may := map[string]string{
		"ki": "11111", "kr": "11111", "kb": "11111", "pi": "11111", "pr": "11111", "pb": "11111", "x": "11110", "y": "11110", "b": "11110", "gi": "00111", "gr": "00111", "gb": "00111", "ci": "01111", "cr": "01111", "cb": "01111", "m": "00000", "p": "00000", "nothing": "00000", "X": "00000",
		"vertex": "10110", "outdeg": "10000", "indeg": "10000", "src": "01000", "dst": "01000", "weight": "01000", "realweight": "01000", "back": "01000", "changed": "00001", "round": "00001",
	}
	sums := map[string]string{"total(t)": "11110", "total(s)": "00111", "total(nothing)": "00000", "total(w)": "00000"}
	for decls, table := range map[string]map[string]string{plainDecls: may, sumDecls: sums} {
		for x, hands := range table {
			for hand := range handNames {
				want := api.ErrUnknown
				if hands[hand] == '1' {
					want = api.OK
				}
				inHand(t, decls, hand, "let q = "+x+";", want, 1)
				inHand(t, decls, hand, "let q = when(1 == 2, "+x+", "+x+");", want, 4)
				inHand(t, decls, hand, "if 1 == 2 { } else { let q = 1; let r = "+x+"; r = q_; }", api.ErrUnknown, either(want == api.OK, 9+strings.Count(x, "("), 7))
			}
		}
	}
	kinds := map[string]string{"vertex": "1", "outdeg": "1", "indeg": "1", "src": "1", "dst": "1", "weight": "1", "realweight": "0.5", "back": "true", "changed": "1", "round": "1", "x": "1", "y": "0.5", "b": "true", "gi": "1", "gr": "0.5", "gb": "true", "ci": "1", "cr": "0.5", "cb": "true", "ki": "1", "kr": "0.5", "kb": "true", "pi": "1", "pr": "0.5", "pb": "true"}
	for x, like := range kinds {
		for hand := range handNames {
			for _, other := range []string{"1", "0.5", "true"} {
				want := api.ErrTyping
				if other == like {
					want = api.OK
				}
				if may[x][hand] == '1' {
					inHand(t, plainDecls, hand, "let q = "+x+"; q = "+other+";", want, 2)
				}
			}
		}
	}
}

func TestCheckLets(t *testing.T) {
	lets := func(n int) string {
		s := ""
		for i := range n {
			s += "let q" + strconv.Itoa(i) + " = 1; "
		}
		return s
	}
	for hand := range handNames {
		for _, taken := range []string{"ki", "kr", "kb", "pi", "x", "y", "b", "gi", "ci", "m"} {
			inHand(t, plainDecls, hand, "let "+taken+" = 1;", api.ErrDoubled, 0)
		}
		inHand(t, plainDecls, hand, "let p = 1;", api.OK, 0)
		inHand(t, plainDecls, hand, "let q = 1; let q = 2;", api.ErrDoubled, 2)
		inHand(t, plainDecls, hand, "let q = 1; if true { let q = 2; }", api.ErrDoubled, 4)
		inHand(t, plainDecls, hand, "let q = 1; while true { if true { } else { let q = 2; } }", api.ErrDoubled, 6)
		inHand(t, plainDecls, hand, lets(6), api.OK, 0)
		inHand(t, plainDecls, hand, lets(7), api.ErrMuch, 12)
		inHand(t, plainDecls, hand, lets(6)+"let q0 = 1;", api.ErrDoubled, 12)
		inHand(t, plainDecls, hand, lets(6)+"let q7 = nothing;", api.ErrMuch, 12)
		inHand(t, plainDecls, hand, lets(5)+"if true { let a = 1; } while true { let a = 1; } let a = 1;", api.OK, 0)
		inHand(t, plainDecls, hand, lets(5)+"if true { let a = 1; let c = 1; }", api.ErrMuch, 14)
		inHand(t, plainDecls, hand, lets(5)+"if true { let a = 1; } else { let a = 1; while true { let c = 1; } }", api.ErrMuch, 18)
		inHand(t, plainDecls, hand, "if true { "+lets(6)+"} else { "+lets(6)+"} "+lets(6), api.OK, 0)
	}
}

func TestCheckDepth(t *testing.T) {
	for _, c := range []struct{ open, close string }{{"if kb { ", "} "}, {"while kb { ", "} "}, {"if kb { } else { ", "} "}, {"if kb { } else ", ""}} {
		nodes := 2
		inner := "if kb { }"
		for hand := range handNames {
			inHand(t, plainDecls, hand, strings.Repeat(c.open, 7)+inner+strings.Repeat(c.close, 7), api.OK, 0)
			inHand(t, plainDecls, hand, strings.Repeat(c.open, 8)+inner+strings.Repeat(c.close, 8), api.ErrMuch, 8*nodes)
			inHand(t, plainDecls, hand, strings.Repeat(c.open, 8)+"if nothing { }"+strings.Repeat(c.close, 8), api.ErrMuch, 8*nodes)
			if c.close != "" {
				inHand(t, plainDecls, hand, strings.Repeat(c.open, 8)+"let q = 1; "+strings.Repeat(c.close, 8)+inner+inner, api.OK, 0)
				inHand(t, plainDecls, hand, strings.Repeat(c.open, 8)+"let q = 1; while kb { } "+strings.Repeat(c.close, 8), api.ErrMuch, 8*nodes+2)
				inHand(t, plainDecls, hand, strings.Repeat(c.open, 7)+inner+" "+inner+" while kb { "+inner+strings.Repeat("} ", 8), api.ErrMuch, 7*nodes+6)
			}
		}
	}
}

func TestCheckSend(t *testing.T) {
	one := "state x int; state y real; lane l int add into x; "
	two := one + "lane m real add into y; "
	for decls, lanes := range map[string]int{"state x int; ": 0, one: 1, two: 2} {
		for words, body := range []string{1: "send 1;", 2: "send 1, 0.5;"} {
			if words == 0 {
				continue
			}
			want := api.ErrLane
			if words == lanes {
				want = api.OK
			}
			inHand(t, decls, api.HandScatter, body, want, 0)
			inHand(t, decls, api.HandScatter, "if true { "+body+" }", want, 2)
			inHand(t, decls, api.HandApply, body, api.ErrUnknown, 0)
			inHand(t, decls, api.HandScatter, strings.Replace(body, "1", "nothing", 1), either(words == lanes, api.ErrUnknown, api.ErrLane), either(words == lanes, 1, 0))
		}
	}
	for body, want := range map[string]api.Errno{"send 0.5;": api.ErrTyping, "send true;": api.ErrTyping, "send 1;": api.OK} {
		inHand(t, one, api.HandScatter, body, want, 0)
		inHand(t, one, api.HandScatter, "skip; "+body, want, 1)
	}
	for body, want := range map[string]api.Errno{"send 0.5, 1;": api.ErrTyping, "send 1, 1;": api.ErrTyping, "send 0.5, 0.5;": api.ErrTyping, "send 1, true;": api.ErrTyping, "send 1, 0.5;": api.OK} {
		inHand(t, two, api.HandScatter, body, want, 0)
	}
	inHand(t, two, api.HandScatter, "send 0.5, nothing;", api.ErrUnknown, 2)
	inHand(t, two, api.HandScatter, "send 0.5 + 0.5, 1 + 0.5;", api.ErrTyping, 6)
}

// TestCheckTyping: the kind that a statement asks for is told behind its expressions' nodes, and ahead of its blocks.
func TestCheckTyping(t *testing.T) {
	for _, c := range []struct {
		decls string
		hand  int
		body  string
		e     api.Errno
		at    int
	}{
		{plainDecls, 2, "x = 0.5;", api.ErrTyping, 0}, {plainDecls, 2, "x = true;", api.ErrTyping, 0}, {plainDecls, 2, "y = 1;", api.ErrTyping, 0}, {plainDecls, 2, "b = 1;", api.ErrTyping, 0}, {plainDecls, 3, "gr = true;", api.ErrTyping, 0}, {plainDecls, 4, "ci = 0.5;", api.ErrTyping, 0}, {plainDecls, 2, "let q = 1; q = 0.5;", api.ErrTyping, 2}, {plainDecls, 2, "let q = 0.5; q = 1;", api.ErrTyping, 2}, {plainDecls, 2, "let q = b; q = 1;", api.ErrTyping, 2},
		{plainDecls, 2, "if 1 { done; }", api.ErrTyping, 0}, {plainDecls, 2, "if 0.5 { }", api.ErrTyping, 0}, {plainDecls, 2, "while 1 { done; }", api.ErrTyping, 0}, {plainDecls, 2, "while y { }", api.ErrTyping, 0}, {plainDecls, 2, "if 1 + 0.5 { }", api.ErrTyping, 3}, {plainDecls, 2, "if nothing { }", api.ErrUnknown, 1}, {plainDecls, 2, "x = nothing;", api.ErrUnknown, 1}, {plainDecls, 2, "if b { x = 0.5; } else { done; }", api.ErrTyping, 2}, {plainDecls, 2, "if b { } else { x = 0.5; }", api.ErrTyping, 2}, {plainDecls, 2, "if b { x = 1; } x = 0.5; done;", api.ErrTyping, 4},
		{sumDecls, 2, "t += 1;", api.ErrTyping, 0}, {sumDecls, 2, "t += true;", api.ErrTyping, 0}, {sumDecls, 3, "s += 1;", api.ErrTyping, 0}, {sumDecls, 2, "t += t;", api.ErrTyping, 1}, {sumDecls, 2, "t += total(t);", api.OK, 0}, {sumDecls, 2, "y = t;", api.ErrTyping, 1}, {sumDecls, 2, "let q = t;", api.ErrTyping, 1}, {sumDecls, 2, "y = -t;", api.ErrTyping, 1}, {sumDecls, 2, "y = total(t) + t;", api.ErrTyping, 3}, {sumDecls, 2, "y = t + total(t);", api.ErrTyping, 1}, {sumDecls, 2, "y = abs(t);", api.ErrTyping, 1}, {sumDecls, 2, "y = total(y);", api.ErrTyping, 2}, {sumDecls, 2, "y = total(0.5);", api.ErrTyping, 2}, {sumDecls, 2, "y = total(1 + 0.5);", api.ErrTyping, 3}, {sumDecls, 2, "y = total(total(t));", api.ErrTyping, 3}, {sumDecls, 2, "y = total(-t);", api.ErrTyping, 1}, {sumDecls, 2, "y = total(when(true, t, t));", api.ErrTyping, 2}, {sumDecls, 2, "y = total(total(nothing));", api.ErrUnknown, 1}, {sumDecls, 4, "let q = total(t);", api.ErrUnknown, 1}, {sumDecls, 4, "let q = t;", api.ErrUnknown, 1}, {sumDecls, 2, "x = total(s);", api.ErrTyping, 0}, {sumDecls, 2, "let q = total(t); q = total(s);", api.OK, 0}, {sumDecls, 1, "let q = total(x);", api.ErrTyping, 2}, {sumDecls, 2, "let q = 0.5; y = total(q);", api.ErrTyping, 4},
	} {
		inHand(t, c.decls, c.hand, c.body, c.e, c.at)
	}
}

// TestCheckKinds: which kinds each operation takes, and what it gives.
func TestCheckKinds(t *testing.T) {
	of := map[string]string{"i": "1", "r": "0.5", "b": "true"}
	tables := []struct {
		form string // A and B are its operands
		takes,
		gives string
	}{
		{"-A", "i r", "i r"}, {"not A", "b", "b"}, {"abs(A)", "i r", "i r"}, {"real(A)", "i", "r"}, {"int(A)", "r", "i"}, {"sqrt(A)", "r", "r"},
		{"A + B", "ii rr", "i r"}, {"A - B", "ii rr", "i r"}, {"A * B", "ii rr", "i r"}, {"A / B", "ii rr", "i r"}, {"A % B", "ii", "i"},
		{"A == B", "ii rr bb", "b b b"}, {"A != B", "ii rr bb", "b b b"}, {"A < B", "ii rr", "b b"}, {"A <= B", "ii rr", "b b"}, {"A > B", "ii rr", "b b"}, {"A >= B", "ii rr", "b b"}, {"A and B", "bb", "b"}, {"A or B", "bb", "b"},
		{"min(A, B)", "ii rr", "i r"}, {"max(A, B)", "ii rr", "i r"}, {"band(A, B)", "ii", "i"}, {"bor(A, B)", "ii", "i"}, {"bxor(A, B)", "ii", "i"}, {"shl(A, 3)", "i", "i"}, {"shr(A, 3)", "i", "i"}, {"shl(A, B)", "ii", "i"}, {"shr(A, B)", "ii", "i"},
		{"when(true, A, B)", "ii rr bb", "i r b"}, {"when(A, 1, 2)", "b", "i"}, {"when(A, B, B)", "bi br bb", "i r b"},
	}
	for _, c := range tables {
		for _, a := range []string{"i", "r", "b"} {
			for _, b := range []string{"i", "r", "b"} {
				two := strings.Contains(c.form, "B")
				if !two && b != "i" {
					continue
				}
				x := strings.ReplaceAll(strings.Replace(c.form, "A", of[a], 1), "B", of[b])
				kinds := a
				if two {
					kinds += b
				}
				nodes := len(exprOf(t, x))
				i := slices.Index(strings.Fields(c.takes), kinds)
				if i < 0 {
					inHand(t, plainDecls, 2, "let q = "+x+";", api.ErrTyping, nodes)
					continue
				}
				for kind, like := range of {
					want := api.OK
					if kind != strings.Fields(c.gives)[i] {
						want = api.ErrTyping
					}
					inHand(t, plainDecls, 2, "let q = "+x+"; q = "+like+";", want, nodes+1)
				}
			}
		}
	}
	for n, want := range map[string]api.Errno{"0": api.OK, "1": api.OK, "63": api.OK, "(63)": api.OK, "64": api.ErrTyping, "9223372036854775807": api.ErrTyping, "x": api.ErrTyping, "ki": api.ErrTyping, "0.5": api.ErrTyping, "true": api.ErrTyping} {
		inHand(t, plainDecls, 2, "x = shl(1, "+n+");", want, 3)
		inHand(t, plainDecls, 2, "x = shr(1, "+n+");", want, 3)
	}
	inHand(t, plainDecls, 2, "x = shl(1, -1);", api.ErrTyping, 4)
	inHand(t, plainDecls, 2, "x = shl(1, 1 + 1);", api.ErrTyping, 5)
	inHand(t, plainDecls, 2, "x = shl(1, nothing);", api.ErrUnknown, 2)
	inHand(t, plainDecls, 2, "x = shl(0.5, 64);", api.ErrTyping, 3)
}

func TestCheckNest(t *testing.T) {
	for _, c := range []struct {
		open, close string
		leaf        string
		first       int // the nodes of a level that stand ahead of what is deeper
		each        int // the nodes of a level
	}{
		{"1 + (", ")", "1", 1, 2}, {"(", ") + 1", "1", 0, 2}, {"-(", ")", "1", 0, 1}, {"not (", ")", "kb", 0, 1}, {"abs(", ")", "1", 0, 1}, {"min(1, ", ")", "1", 1, 2}, {"when(kb, 1, ", ")", "1", 2, 3}, {"when(kb, ", ", 1)", "1", 1, 3}, {"kb and (", ")", "kb", 1, 2}, {"(", ") - 1", "2", 0, 2}, {"shl(", ", 1)", "1", 0, 2},
	} {
		x := func(n int) string { return strings.Repeat(c.open, n) + c.leaf + strings.Repeat(c.close, n) }
		for hand := range handNames {
			inHand(t, plainDecls, hand, "let q = "+x(11)+";", api.OK, 0)
			// ahead of the twelfth operation stand what is deeper and, of each level, what comes first, and of the deeper ones what comes behind.
			inHand(t, plainDecls, hand, "let q = "+x(12)+";", api.ErrMuch, 1+12*c.each)
			inHand(t, plainDecls, hand, "let q = "+x(11)+"; let r = "+x(14)+";", api.ErrMuch, 2+11*c.each+1+2*c.first+12*c.each)
		}
	}
	inHand(t, plainDecls, 2, "x = "+strings.Repeat("-(", 11)+"nothing"+strings.Repeat(")", 11)+";", api.ErrUnknown, 1)
	inHand(t, plainDecls, 2, "x = "+strings.Repeat("-(", 12)+"0.5"+strings.Repeat(")", 12)+" + 1;", api.ErrMuch, 13)
	inHand(t, plainDecls, 2, "x = "+strings.Repeat("-(", 11)+"0.5"+strings.Repeat(")", 11)+" + 1;", api.ErrTyping, 14)
	inHand(t, plainDecls, 2, "x = -"+strings.Repeat("-(", 11)+"1"+strings.Repeat(")", 11)+" + 0.5;", api.ErrMuch, 13)
}

func TestCheckNodes(t *testing.T) {
	for hand := range handNames {
		inHand(t, plainDecls, hand, strings.Repeat("if true { } ", 48), api.OK, 0)
		inHand(t, plainDecls, hand, strings.Repeat("if true { } ", 48)+"while true { }", api.ErrMuch, 0)
		inHand(t, plainDecls, hand, "if true { "+strings.Repeat("if true { } else { } ", 46)+"} else { if true { } }", api.OK, 0)
		inHand(t, plainDecls, hand, "nothing = 1; if true { "+strings.Repeat("if true { } else { } ", 46)+"} else { if true { } }", api.ErrMuch, 0)
		inHand(t, plainDecls, hand, strings.Repeat("skip; ", 97), api.ErrMuch, 0)
	}
	inHand(t, plainDecls, 1, strings.Repeat("skip; ", 96), api.OK, 0)
	inHand(t, sumDecls, 1, strings.Repeat("send 0.5, 1; ", 32), api.OK, 0)
	inHand(t, sumDecls, 1, strings.Repeat("send 0.5, 1; ", 32)+"skip;", api.ErrMuch, 0)
	inHand(t, plainDecls, 2, "x = 1"+strings.Repeat(" + (1 + 1)", 23)+";", api.ErrMuch, 1+4*11) // the first that is too deep
	over := strings.Repeat("keep; ", 97)
	checked(t, plainDecls+"on start { done; } on apply { "+over+"}", api.ErrUnknown, 0, 0)
	checked(t, plainDecls+"on fold { done; } on apply { "+over+"}", api.ErrMuch, 2, 0)
}

// handFaults are faults of handlers, each with the nodes that stand ahead of what is wrong.
var handFaults = []struct {
	body string
	e    api.Errno
	at   int
}{
	{"nothing = 1; ", api.ErrUnknown, 0}, {"done; ", api.ErrUnknown, 0}, {"let x = 1; ", api.ErrDoubled, 0}, {"let z = nothing; ", api.ErrUnknown, 1}, {"let z = 1 + 0.5; ", api.ErrTyping, 3}, {"x = 0.5; ", api.ErrTyping, 0}, {"if 1 { } ", api.ErrTyping, 0}, {"if true { x = true; } ", api.ErrTyping, 2}, {"x = shl(1, 64); ", api.ErrTyping, 3}, {"if true { } else { change; skip; } ", api.ErrUnknown, 3},
}

// TestCheckFirst: of two faults the first is told.
func TestCheckFirst(t *testing.T) {
	fine := "if b { x = 1; } let w = 2; "
	for _, one := range handFaults {
		for _, other := range handFaults {
			inHand(t, plainDecls, 2, one.body+other.body, one.e, one.at)
			inHand(t, plainDecls, 2, fine+one.body+fine+other.body, one.e, 6+one.at)
			inHand(t, plainDecls, 2, "if b { "+one.body+"} else { "+other.body+"}", one.e, 2+one.at)
			inHand(t, plainDecls, 2, "while b { "+fine+one.body+"} "+other.body, one.e, 8+one.at)
			checked(t, plainDecls+"on turn { "+other.body+"} on apply { "+one.body+"}", one.e, 2, one.at)
			checked(t, "state x int; both; both; on apply { "+one.body+"}", api.ErrDoubled, -1, 2)
			checked(t, "both; on apply { "+one.body+"}", api.ErrUnknown, -1, 1)
		}
		if e, hand, at := lore.Check(spoilt(read(t, handText(plainDecls, 2, one.body)))); e != api.ErrTree || hand != -1 || at != 0 {
			t.Errorf("P17.1: %s: %d, %d, %d", one.body, e, hand, at)
		}
	}
	for body, want := range map[string]struct {
		e  api.Errno
		at int
	}{
		"send 1 + 0.5, nothing;": {api.ErrLane, 0}, "x = 1 + (0.5 + nothing);": {api.ErrUnknown, 3}, "x = (1 + 0.5) + nothing;": {api.ErrTyping, 3}, "x = 0.5 + nothing;": {api.ErrUnknown, 2}, "let x = nothing;": {api.ErrDoubled, 0},
	} {
		hand := 2
		if strings.HasPrefix(body, "send") {
			hand = 1
		}
		inHand(t, plainDecls, hand, body, want.e, want.at)
	}
}

// spoilt makes a tree that no text gives, at its very end.
func spoilt(l api.Lore) api.Lore {
	l = copyOf(l)
	l.Hands[api.HandTurn] = append(l.Hands[api.HandTurn], api.LoreStep{Op: api.LsGo, Name: "q"})
	return l
}
