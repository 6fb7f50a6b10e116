package lore_test

import (
	"math"
	"strings"
	"testing"

	"sluice/api"
	"sluice/loom"
	"sluice/lore"
)

// plays runs a handler as it means, as the model of the tests has it, and as loom runs its code; all must agree, at most that suffices and at one less.
func plays(t testing.TB, l api.Lore, args []api.LoreArg, hand int, f api.Frame) (api.Effect, int, api.Errno) {
	t.Helper()
	const most = 3000
	x, n, e := lore.Interp(l, args, hand, f, most)
	agree(t, l, args, hand, f, most)
	if e == api.ErrFuel {
		return x, n, e
	}
	agree(t, l, args, hand, f, n)
	for less := n - 1; less >= 0 && less > n-20; less-- {
		if x, k, e := lore.Interp(l, args, hand, f, less); x != (api.Effect{}) || k != less || e != api.ErrFuel {
			t.Errorf("P17.5: with %d of %d: %v, %d, %d", less, n, x, k, e)
		}
	}
	c, k := lore.Compile(l, args...)
	if k != api.OK {
		t.Fatalf("P17.4: %d", k)
	}
	if got, _, d := loom.Run(c, hand, f, 16*n+64); got != x || d != e {
		t.Errorf("P17.6: %s: %v, %d, want %v, %d", textOf(l), got, d, x, e)
	}
	return x, n, e
}

// agree holds Interp against the model.
func agree(t testing.TB, l api.Lore, args []api.LoreArg, hand int, f api.Frame, most int) {
	t.Helper()
	x, n, e := lore.Interp(l, args, hand, f, most)
	y, m, d := modelRun(l, args, hand, f, most)
	if x != y || n != m || e != d {
		t.Errorf("P17.5: %s with %v, %d: %v, %d, %d, want %v, %d, %d", textOf(l), f, hand, x, n, e, y, m, d)
	}
}

func textOf(l api.Lore) string {
	text, _ := lore.Print(l)
	return text
}

// bodyPlays runs a handler's body.
func bodyPlays(t testing.TB, decls string, hand int, body string, f api.Frame) (api.Effect, int, api.Errno) {
	t.Helper()
	return plays(t, read(t, handText(decls, hand, body)), someArgs, hand, f)
}

func real32(x float32) uint64 { return uint64(math.Float32bits(x)) }

// ends of ints and reals, as texts.
var (
	intEnds  = []string{"0", "1", "-1", "2", "-7", "63", "9223372036854775807", "-9223372036854775807", "(-9223372036854775807 - 1)", "4611686018427387904", "3037000500", "16777217"}
	realEnds = []string{"0.0", "-0.0", "1.0", "-1.5", "2.5e0", "3.40282347e38", "-3.40282347e38", "1.40129846e-45", "1.17549435e-38", "(1.0 / 0.0)", "(-1.0 / 0.0)", "9.22337204e18", "-9.22337204e18", "9.22337149e18", "-9.22337315e18", "0.1", "16777216.0"}
)

// TestOperations: each operation on all ends of its kinds.
func TestOperations(t *testing.T) {
	for _, form := range []string{"A + B", "A - B", "A * B", "A / B", "A % B", "min(A, B)", "max(A, B)", "band(A, B)", "bor(A, B)", "bxor(A, B)", "when(A == B, 1, 2)", "when(A != B, 1, 2)", "when(A < B, 1, 2)", "when(A <= B, 1, 2)", "when(A > B, 1, 2)", "when(A >= B, 1, 2)", "-A", "abs(A)", "shl(A, 0)", "shl(A, 1)", "shl(A, 63)", "shr(A, 0)", "shr(A, 1)", "shr(A, 63)", "int(real(A))"} {
		for _, a := range intEnds {
			for _, b := range intEnds[:either(strings.Contains(form, "B"), len(intEnds), 1)] {
				bodyPlays(t, plainDecls, api.HandApply, "x = "+strings.NewReplacer("A", "("+a+")", "B", "("+b+")").Replace(form)+"; change;", api.Frame{})
			}
		}
	}
	for _, form := range []string{"A + B", "A - B", "A * B", "A / B", "min(A, B)", "max(A, B)", "when(A == B, 1.0, 2.0)", "when(A != B, 1.0, 2.0)", "when(A < B, 1.0, 2.0)", "when(A <= B, 1.0, 2.0)", "when(A > B, 1.0, 2.0)", "when(A >= B, 1.0, 2.0)", "-A", "abs(A)", "sqrt(A)", "real(int(A))"} {
		for _, a := range realEnds {
			for _, b := range realEnds[:either(strings.Contains(form, "B"), len(realEnds), 1)] {
				bodyPlays(t, plainDecls, api.HandApply, "y = "+strings.NewReplacer("A", "("+a+")", "B", "("+b+")").Replace(form)+"; change;", api.Frame{})
			}
		}
	}
	for _, form := range []string{"A == B", "A != B", "A and B", "A or B", "not A", "when(A, B, not B)"} {
		for _, a := range []string{"true", "false"} {
			for _, b := range []string{"true", "false"} {
				bodyPlays(t, plainDecls, api.HandApply, "b = "+strings.NewReplacer("A", a, "B", b).Replace(form)+"; change;", api.Frame{})
			}
		}
	}
}

// TestMeaning: some results that a reader knows, with their counts.
func TestMeaning(t *testing.T) {
	minus := func(n int64) uint64 { return uint64(-n) }
	for _, c := range []struct {
		x    string
		want uint64
		n    int
		e    api.Errno
	}{
		{"1 + 2 * 3", 7, 6, 0}, {"-7 / 2", minus(3), 5, 0}, {"-7 % 2", minus(1), 5, 0}, {"7 % -2", 1, 5, 0}, {"abs(-ki)", 7, 4, 0}, {"min(3, -4)", minus(4), 5, 0}, {"max(pi, ki)", 7, 4, 0}, {"int(2.75)", 2, 3, 0}, {"int(-kr * 3.0)", minus(1), 6, 0}, {"shl(3, 2)", 12, 4, 0}, {"shr(-1, 63)", 1, 5, 0}, {"band(6, 3)", 2, 4, 0}, {"bor(6, 3)", 7, 4, 0}, {"bxor(6, 3)", 5, 4, 0},
		{"when(kb, 1, 1 / 0)", 1, 4, 0}, {"when(not kb, 1 / 0, 2)", 2, 5, 0}, {"when(false and 1 / 0 == 1, 1, 2)", 2, 5, 0}, {"when(true or 1 / 0 == 1, 1, 2)", 1, 5, 0}, {"when(true and 1 / 0 == 1, 1, 2)", 0, 8, api.ErrTrapZero}, {"when(false or 1 / 0 == 1, 1, 2)", 0, 8, api.ErrTrapZero}, {"when(1 / 0 == 1, 1, 2)", 0, 6, api.ErrTrapZero},
		{"when(1 > 0, 1, 2)", 1, 6, 0}, {"when(1 >= 2, 1, 2)", 2, 6, 0}, {"when(kr != 0.5, 1, 2)", 2, 6, 0}, {"when(kb == false, 1, 2)", 2, 6, 0}, {"int(sqrt(real(16)))", 4, 5, 0}, {"when(0.0 == -0.0, 1, 2)", 1, 7, 0}, {"int(min(0.0, -0.0) + 5.0)", 5, 8, 0},
		{"1 / 0", 0, 4, api.ErrTrapZero}, {"1 % 0", 0, 4, api.ErrTrapZero}, {"9223372036854775807 + 1", 0, 4, api.ErrTrapInt}, {"-9223372036854775807 - 2", 0, 5, api.ErrTrapInt}, {"4294967296 * 2147483648", 0, 4, api.ErrTrapInt}, {"(-9223372036854775807 - 1) / -1", 0, 8, api.ErrTrapInt}, {"(-9223372036854775807 - 1) % -1", 0, 8, 0}, {"-(-9223372036854775807 - 1)", 0, 6, api.ErrTrapInt}, {"abs(-9223372036854775807 - 1)", 0, 6, api.ErrTrapInt}, {"int(1.0e19)", 0, 3, api.ErrTrapInt}, {"int(1.0 / 0.0)", 0, 5, api.ErrTrapInt}, {"int(0.0 / 0.0)", 0, 5, api.ErrTrapReal}, {"int(sqrt(-1.0))", 0, 5, api.ErrTrapReal}, {"int((1.0 / 0.0) - (1.0 / 0.0))", 0, 9, api.ErrTrapReal}, {"int(0.0 * (1.0 / 0.0))", 0, 7, api.ErrTrapReal},
		{"1 / 0 + 9223372036854775807 * 2", 0, 5, api.ErrTrapZero}, {"9223372036854775807 * 2 + 1 / 0", 0, 5, api.ErrTrapInt}, {"when(1 / 0 > 9223372036854775807 * 2, 1, 2)", 0, 6, api.ErrTrapZero}, {"shl(1 / 0, 3)", 0, 5, api.ErrTrapZero}, {"min(1 / 0, 9223372036854775807 * 2)", 0, 5, api.ErrTrapZero},
	} {
		x, n, e := bodyPlays(t, plainDecls, api.HandApply, "x = "+c.x+";", api.Frame{State: api.State{9}})
		if x.State[0] != c.want || n != c.n || e != c.e {
			t.Errorf("P17.5: %s: %d, %d, %d", c.x, int64(x.State[0]), n, e)
		}
	}
}

// TestGiven: what a handler is told, at the ends of what it may be.
func TestGiven(t *testing.T) {
	most := uint64(math.MaxUint64)
	for _, c := range []struct {
		hand int
		x    string
		f    api.Frame
		want uint64
		e    api.Errno
	}{
		{0, "vertex", api.Frame{Vertex: math.MaxUint32}, math.MaxUint32, 0}, {2, "vertex", api.Frame{Vertex: 7}, 7, 0}, {0, "outdeg", api.Frame{Degrees: api.Degrees{Out: 5, In: 6}}, 5, 0}, {0, "indeg", api.Frame{Degrees: api.Degrees{Out: 5, In: 6}}, 6, 0}, {0, "outdeg", api.Frame{Degrees: api.Degrees{Out: most}}, most >> 1, 0}, {0, "indeg", api.Frame{Degrees: api.Degrees{In: 1 << 63}}, most >> 1, 0}, {0, "indeg", api.Frame{Degrees: api.Degrees{In: most >> 1}}, most >> 1, 0},
	} {
		x, n, e := bodyPlays(t, plainDecls, c.hand, "x = "+c.x+";", c.f)
		if x.State[0] != c.want || n != 2 || e != c.e {
			t.Errorf("P17.5: %s: %v, %d, %d", c.x, x, n, e)
		}
	}
	for _, c := range []struct {
		kind, x string
		f       api.Frame
		want    uint64
		e       api.Errno
	}{
		{"int", "src", api.Frame{Edge: api.Edge{Src: math.MaxUint32, Dst: 2}}, math.MaxUint32, 0}, {"int", "dst", api.Frame{Edge: api.Edge{Src: 1, Dst: math.MaxUint32}}, math.MaxUint32, 0}, {"int", "weight", api.Frame{Edge: api.Edge{W: math.MaxUint32}}, most, 0}, {"int", "weight", api.Frame{Edge: api.Edge{W: 1 << 31}}, 0xffffffff80000000, 0}, {"int", "weight", api.Frame{Edge: api.Edge{W: 1<<31 - 1}}, 1<<31 - 1, 0}, {"real", "realweight", api.Frame{Edge: api.Edge{W: 0x3fc00000}}, 0x3fc00000, 0}, {"real", "realweight", api.Frame{Edge: api.Edge{W: 0xff800000}}, 0xff800000, 0}, {"real", "realweight", api.Frame{Edge: api.Edge{W: 0x7fc00000}}, 0, api.ErrTrapReal}, {"real", "realweight", api.Frame{Edge: api.Edge{W: 0x80000000}}, 0x80000000, 0}, {"bool", "back", api.Frame{Back: true}, 1, 0}, {"bool", "back", api.Frame{}, 0, 0},
	} {
		l := read(t, "program p; state v "+c.kind+"; lane l "+c.kind+" or into v; on scatter { send "+c.x+"; }")
		x, n, e := plays(t, l, nil, api.HandScatter, c.f)
		if x != (api.Effect{A: c.want, Flag: c.e == api.OK}) || n != 2 || e != c.e {
			t.Errorf("P17.5: %s: %v, %d, %d", c.x, x, n, e)
		}
	}
	for changed, want := range map[uint64]uint64{0: 0, 9: 9, most >> 1: most >> 1, 1 << 63: most >> 1, most: most >> 1} {
		if x, _, e := bodyPlays(t, plainDecls, api.HandTurn, "ci = changed;", api.Frame{Changed: changed}); x.Ctl[0] != want || e != api.OK {
			t.Errorf("P17.5: changed %d: %v, %d", changed, x, e)
		}
	}
	for _, round := range []int{0, 1, api.MaxCap, math.MaxInt64, math.MinInt64, -1} {
		if x, _, e := bodyPlays(t, plainDecls, api.HandTurn, "ci = round;", api.Frame{Round: round}); x.Ctl[0] != uint64(round) || e != api.OK {
			t.Errorf("P17.5: round %d: %v, %d", round, x, e)
		}
	}
	if x, _, e := bodyPlays(t, plainDecls, api.HandFold, "gi = vertex;", api.Frame{Vertex: 5}); x.Agg[0] != 5 || e != api.OK {
		t.Errorf("P17.5: %v, %d", x, e)
	}
}

// TestWords: words of the frame may be any, and are read and written by their kinds.
func TestWords(t *testing.T) {
	odd := api.Frame{State: api.State{1 << 63, 0xdeadbeef3fc00000, 1 << 40, 4, 5, 6, 7, 8}, Agg: api.State{1<<64 - 1, 1<<63 | 0x80000000, 2, 4, 5, 6, 7, 8}, Ctl: api.Ctl{5, 0xff800000, 1 << 63, 77}}
	for _, c := range []struct {
		hand int
		body string
		want api.Effect
		n    int
	}{
		{2, "", api.Effect{State: api.State{1 << 63, 0xdeadbeef3fc00000, 1 << 40}}, 0}, // what is not written stays as it was, above the words nothing
		{2, "x = x; y = y; b = b;", api.Effect{State: api.State{1 << 63, 0x3fc00000, 1}}, 6},
		{2, "x = gi; y = gr; b = gb;", api.Effect{State: api.State{1<<64 - 1, 0x80000000, 1}}, 6},
		{2, "x = ci; y = cr; b = cb; keep;", api.Effect{State: api.State{5, 0xff800000, 1}}, 7},
		{0, "", api.Effect{}, 0},
		{0, "x = x + ki; y = y + kr; b = not b;", api.Effect{State: api.State{7, 0x3f000000, 1}}, 11},
		{3, "", api.Effect{Agg: odd.Agg}, 0},
		{3, "gi = x; gr = y; gb = b;", api.Effect{Agg: api.State{1 << 63, 0x3fc00000, 1, 4, 5, 6, 7, 8}}, 6},
		{4, "", api.Effect{Ctl: odd.Ctl}, 0},
		{4, "ci = gi; cr = gr; cb = gb; done;", api.Effect{Ctl: api.Ctl{1<<64 - 1, 0x80000000, 1, 77}, Flag: true}, 7},
		{4, "cb = false; cb = cb; go;", api.Effect{Ctl: api.Ctl{5, 0xff800000, 0, 77}}, 5},
		{2, "x = pi; y = pr; b = pb; change;", api.Effect{State: api.State{5, 0x3fc00000, 1}, Flag: true}, 7},
		{2, "x = ki; y = kr; b = kb;", api.Effect{State: api.State{7, 0x3f000000, 1}}, 6},
	} {
		x, n, e := bodyPlays(t, plainDecls, c.hand, c.body, odd)
		if x != c.want || n != c.n || e != api.OK {
			t.Errorf("P17.5: %d %s: %v, %d, %d", c.hand, c.body, x, n, e)
		}
	}
	bad := api.Frame{State: api.State{0, 0x7fc00000}, Agg: api.State{0, 1<<40 | 0x7f800001}, Ctl: api.Ctl{0, 0xffffffff}}
	for body, n := range map[string]int{"y = y;": 2, "x = 1; y = 1.0 + gr;": 6, "let q = cr;": 2, "if y == y { }": 3} {
		if x, got, e := bodyPlays(t, plainDecls, 2, body, bad); x != (api.Effect{}) || got != n || e != api.ErrTrapReal {
			t.Errorf("P17.5: %s: %v, %d, %d", body, x, got, e)
		}
	}
	if x, n, e := bodyPlays(t, plainDecls, 2, "y = 1.0; y = y; change;", bad); x.State[1] != real32(1) || n != 5 || e != api.OK {
		t.Errorf("P17.5: %v, %d, %d", x, n, e)
	}
}

// TestEnds: each handler by each of its ends.
func TestEnds(t *testing.T) {
	two := "state x int; state y real; lane l int add into x; lane m real max into y; param pi int; param pr real; param pb bool; "
	for _, c := range []struct {
		decls string
		hand  int
		body  string
		want  api.Effect
		n     int
	}{
		{plainDecls, 1, "", api.Effect{}, 0}, {plainDecls, 1, "skip;", api.Effect{}, 1}, {plainDecls, 1, "skip; send 1;", api.Effect{}, 1}, {plainDecls, 1, "send 1; skip;", api.Effect{A: 1, Flag: true}, 2}, {plainDecls, 1, "send -1;", api.Effect{A: 1<<64 - 1, Flag: true}, 3},
		{two, 1, "", api.Effect{}, 0}, {two, 1, "skip;", api.Effect{}, 1}, {two, 1, "send 3, 0.5;", api.Effect{A: 3, B: 0x3f000000, Flag: true}, 3}, {two, 1, "send 0, -0.0;", api.Effect{B: 0x80000000, Flag: true}, 4},
		{mereDecls, 1, "", api.Effect{}, 0}, {mereDecls, 1, "skip;", api.Effect{}, 1}, {mereDecls, 1, "let q = 1; skip;", api.Effect{}, 3},
		{plainDecls, 2, "keep; x = 1;", api.Effect{}, 1}, {plainDecls, 2, "change; x = 1;", api.Effect{Flag: true}, 1}, {plainDecls, 2, "x = 1; change;", api.Effect{State: api.State{1}, Flag: true}, 3}, {plainDecls, 2, "x = 1; keep;", api.Effect{State: api.State{1}}, 3}, {plainDecls, 2, "x = 1;", api.Effect{State: api.State{1}}, 2},
		{plainDecls, 4, "", api.Effect{}, 0}, {plainDecls, 4, "go; done;", api.Effect{}, 1}, {plainDecls, 4, "done; go;", api.Effect{Flag: true}, 1}, {plainDecls, 4, "ci = 4; done;", api.Effect{Ctl: api.Ctl{4}, Flag: true}, 3},
		{plainDecls, 4, "if true { done; } else { go; } go;", api.Effect{Flag: true}, 3}, {plainDecls, 4, "if false { done; } else { go; } done;", api.Effect{}, 3}, {plainDecls, 4, "while true { if true { done; } }", api.Effect{Flag: true}, 5}, {plainDecls, 4, "if false { done; }", api.Effect{}, 2}, {plainDecls, 4, "if true { } done;", api.Effect{Flag: true}, 3}, {plainDecls, 4, "if false { } else { if true { done; } } go;", api.Effect{Flag: true}, 5},
	} {
		x, n, e := bodyPlays(t, c.decls, c.hand, c.body, api.Frame{})
		if x != c.want || n != c.n || e != api.OK {
			t.Errorf("P17.5: %d %s: %v, %d, %d", c.hand, c.body, x, n, e)
		}
	}
}

// TestLoops: their counts, lets in them, and the want of fuel.
func TestLoops(t *testing.T) {
	for _, c := range []struct {
		body string
		x    uint64
		n    int
	}{
		{"while false { x = 1; }", 0, 2},
		{"while x < 3 { x = x + 1; }", 3, 4*4 + 3*4},
		{"let i = 0; while i < 5 { let q = i * 10; i = i + 1; if i == 3 { let r = 100; x = x + r; } else { x = x + q; } }", 10 + 100 + 30 + 40, 2 + 6*4 + 5*(4+4+4) + 6 + 4*4},
		{"let i = 3; while i > 0 { let j = i; while j > 0 { x = x + 1; j = j - 1; } i = i - 1; }", 6, 2 + 4*4 + 3*2 + (3+2+1+3)*4 + 6*8 + 3*4},
		{"while true { x = x + 1; if x == 4 { keep; } }", 4, 4*(2+4+4) + 1},
	} {
		x, n, e := bodyPlays(t, plainDecls, 2, c.body, api.Frame{})
		if x.State[0] != c.x || n != c.n || e != api.OK {
			t.Errorf("P17.5: %s: %v, %d, want %d, %d", c.body, x, n, c.n, e)
		}
	}
	for _, body := range []string{"while true { }", "while 1 == 1 { let q = 1; }", "let i = 0; while i >= 0 { i = i + 1; }", "while true { while false { } }"} {
		if x, n, e := bodyPlays(t, plainDecls, 2, body, api.Frame{}); x != (api.Effect{}) || n != 3000 || e != api.ErrFuel {
			t.Errorf("P17.5: %s: %v, %d, %d", body, x, n, e)
		}
	}
	if _, n, e := bodyPlays(t, plainDecls, 2, "let i = 1; while true { i = i * 2; }", api.Frame{}); n != 2+63*6 || e != api.ErrTrapInt {
		t.Errorf("P17.5: %d, %d", n, e)
	}
}

// TestSums: tallies of the state and of the aggregate.
func TestSums(t *testing.T) {
	one := api.State{0, 0, 0, 1 << 21}       // the sum of 1 in the state's words from 1 on
	big := api.State{0, 0, 0, 0, 0, 1 << 30} // one beyond all reals
	for _, c := range []struct {
		hand int
		body string
		f    api.Frame
		want api.Effect
		n    int
		e    api.Errno
	}{
		{2, "t += 1.0;", api.Frame{}, api.Effect{State: one}, 2, 0},
		{0, "t += 1.0e30; t += 1.0; t += -1.0e30;", api.Frame{State: big}, api.Effect{State: one}, 7, 0},
		{0, "t += 16777216.0; t += 1.0; t += 1.0; y = total(t);", api.Frame{}, api.Effect{State: api.State{0, 0, 0, 0x200000400000, 0, 0, 0, real32(16777218)}}, 9, 0},
		{2, "clear t;", api.Frame{State: api.State{3, 1, 2, 3, 4, 5, 6, 7}}, api.Effect{State: api.State{3, 0, 0, 0, 0, 0, 0, 7}}, 1, 0},
		{2, "t += 1.0 / 0.0; t += -1.0 / 0.0;", api.Frame{State: one}, api.Effect{State: one}, 9, 0},
		{2, "t += total(t); t += total(t);", api.Frame{State: one}, api.Effect{State: api.State{0, 0, 0, 1 << 23}}, 6, 0},
		{2, "y = total(t);", api.Frame{State: big}, api.Effect{}, 3, api.ErrTrapReal},
		{2, "y = total(t);", api.Frame{State: api.State{0, 0, 0, 0, 0, 0, 1 << 63}}, api.Effect{}, 3, api.ErrTrapReal},
		{2, "y = total(s);", api.Frame{Agg: api.State{0, 0, 1 << 21}}, api.Effect{State: api.State{7: real32(1)}}, 3, 0},
		{2, "y = total(s);", api.Frame{Agg: api.State{1}}, api.Effect{State: api.State{7: 1}}, 3, 0},
		{3, "s += 1.0; s += 2.0; gr = total(s);", api.Frame{Agg: api.State{0, 0, 1 << 21}}, api.Effect{Agg: api.State{0, 0, 1 << 23, 0, 0, 0, 0, real32(4)}}, 7, 0},
		{3, "s += total(t) + y; gi = x;", api.Frame{State: api.State{9, 0, 0, 1 << 21, 0, 0, 0, real32(1)}}, api.Effect{Agg: api.State{0, 0, 1 << 22, 0, 0, 0, 9}}, 7, 0},
		{4, "cr = total(s);", api.Frame{Agg: api.State{0, 0, 3 << 21}}, api.Effect{Ctl: api.Ctl{real32(3)}}, 3, 0},
		{1, "send total(t), x;", api.Frame{State: api.State{5, 0, 0, 1 << 21}}, api.Effect{A: real32(1), B: 5, Flag: true}, 4, 0},
		{1, "send total(t), 1 / 0;", api.Frame{State: big}, api.Effect{}, 3, api.ErrTrapReal},
	} {
		x, n, e := bodyPlays(t, sumDecls, c.hand, c.body, c.f)
		if x != c.want || n != c.n || e != c.e {
			t.Errorf("P17.5: %d %s: %v, %d, %d", c.hand, c.body, x, n, e)
		}
	}
}

func TestInterpArguments(t *testing.T) {
	l := read(t, handText(plainDecls, 2, "x = 1;"))
	wrong := read(t, handText(plainDecls, 2, "x = 0.5;"))
	for _, c := range []struct {
		l          api.Lore
		args       []api.LoreArg
		hand, most int
		e          api.Errno
	}{
		{l, someArgs, -1, 5, api.ErrArg}, {l, someArgs, 5, 5, api.ErrArg}, {l, someArgs, math.MaxInt, 5, api.ErrArg}, {l, someArgs, math.MinInt, 5, api.ErrArg}, {l, someArgs, 2, -1, api.ErrArg}, {l, someArgs, 2, api.MaxFuel + 1, api.ErrArg}, {l, someArgs, 2, math.MinInt, api.ErrArg}, {wrong, nil, 5, 5, api.ErrArg}, {api.Lore{}, nil, 0, -1, api.ErrArg}, {api.Lore{}, nil, 0, 5, api.ErrTree}, {wrong, someArgs, 2, 5, api.ErrTyping}, {wrong, nil, 2, 5, api.ErrTyping}, {wrong, someArgs, 0, 5, api.ErrTyping}, {l, nil, 2, 5, api.ErrParam}, {l, someArgs[1:], 2, 5, api.ErrParam}, {l, nil, 2, 0, api.ErrParam},
	} {
		if x, n, e := lore.Interp(c.l, c.args, c.hand, api.Frame{}, c.most); x != (api.Effect{}) || n != 0 || e != c.e {
			t.Errorf("P17.5: %d, %d: %v, %d, %d, want %d", c.hand, c.most, x, n, e, c.e)
		}
	}
	for _, most := range []int{2, api.MaxFuel} {
		if x, n, e := lore.Interp(l, someArgs, 2, api.Frame{}, most); x.State[0] != 1 || n != 2 || e != api.OK {
			t.Errorf("P17.5: %d: %v, %d, %d", most, x, n, e)
		}
	}
}
