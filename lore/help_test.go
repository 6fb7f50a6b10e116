package lore_test

import (
	"math"
	"math/rand/v2"
	"slices"
	"strconv"
	"strings"
	"testing"

	"sluice/api"
	"sluice/grain"
	"sluice/lore"
)

// The first example of the chapter.
const hops = "program hops;\nconst far = 1000000000;\nparam source int;\nstate best int;\nstate told bool;\nlane step int minint into best;\non start {\n  best = when(vertex == source, 0, far);\n}\non scatter {\n  if best < far {\n    send best + 1;\n  }\n}\n"

// Declarations of every class: the first with a bool of each, the second with tallies and two lanes, the third without a lane.
const (
	plainDecls = "const ki = 7; const kr = 0.5; const kb = true; param pi int; param pr real; param pb bool; state x int; state y real; state b bool; agg gi int; agg gr real; agg gb bool; ctl ci int; ctl cr real; ctl cb bool; lane m int add into x; "
	sumDecls   = "both; param pi int; param pr real; param pb bool; state x int; state t tally; state y real; agg s tally; agg gi int; agg gr real; ctl cr real; lane w real tally into t; lane m int maxint into x; "
	mereDecls  = "param pi int; param pr real; param pb bool; state b bool; state x int; state y real; "
)

var (
	handNames = []string{"start", "scatter", "apply", "fold", "turn"}
	someArgs  = []api.LoreArg{{Name: "pi", Kind: api.WordInt, Word: 5}, {Name: "pr", Kind: api.WordReal, Word: 0x3fc00000}, {Name: "pb", Kind: api.WordBool, Word: 1}}
)

// handText is a program with declarations and one handler.
func handText(decls string, hand int, body string) string {
	return "program p; " + decls + "on " + handNames[hand] + " { " + body + " }"
}

// read parses a text that is right.
func read(t testing.TB, text string) api.Lore {
	t.Helper()
	l, e, at := lore.Parse(text)
	if e != api.OK || at != (api.LorePlace{}) {
		t.Fatalf("P17.2: %q: %d at %v", text, e, at)
	}
	return l
}

// refuse parses a text that is wrong.
func refuse(t testing.TB, text string, want api.Errno, line, col int) {
	t.Helper()
	l, e, at := lore.Parse(text)
	if !same(l, api.Lore{}) || l.Decls != nil || e != want || at != (api.LorePlace{Line: line, Col: col}) {
		t.Errorf("P17.2: %.90q: %v, %d at %v, want %d at %d, %d", text, l, e, at, want, line, col)
	}
}

// same tells whether two trees are; nil and empty lists mean the same.
func same(a, b api.Lore) bool {
	if a.Name != b.Name || !slices.Equal(a.Decls, b.Decls) {
		return false
	}
	for hand := range a.Hands {
		if !sameSteps(a.Hands[hand], b.Hands[hand]) {
			return false
		}
	}
	return true
}

func sameSteps(a, b []api.LoreStep) bool {
	return slices.EqualFunc(a, b, func(a, b api.LoreStep) bool {
		return a.Op == b.Op && a.Name == b.Name && slices.Equal(a.X, b.X) && slices.Equal(a.Y, b.Y) && sameSteps(a.Then, b.Then) && sameSteps(a.Else, b.Else)
	})
}

// copyOf shares nothing with a tree.
func copyOf(l api.Lore) api.Lore {
	l.Decls = slices.Clone(l.Decls)
	for hand := range l.Hands {
		l.Hands[hand] = copySteps(l.Hands[hand])
	}
	return l
}

func copySteps(steps []api.LoreStep) []api.LoreStep {
	out := slices.Clone(steps)
	for i := range out {
		out[i].X, out[i].Y = slices.Clone(out[i].X), slices.Clone(out[i].Y)
		out[i].Then, out[i].Else = copySteps(out[i].Then), copySteps(out[i].Else)
	}
	return out
}

// dice is a source of numbers that is the same each time.
func dice(seed uint64) *rand.Rand { return rand.New(rand.NewPCG(seed, 17)) }

func pickOne[T any](r *rand.Rand, list ...T) T { return list[r.IntN(len(list))] }

var functionArity = map[string]int{"min": 2, "max": 2, "abs": 1, "real": 1, "int": 1, "sqrt": 1, "total": 1, "when": 3, "band": 2, "bor": 2, "bxor": 2, "shl": 2, "shr": 2}

// arity tells how many operands a node of that Op and name has; -1, if there is no such node.
func arity(op int, name string) int {
	switch {
	case op >= api.LxInt && op <= api.LxName:
		return 0
	case op == api.LxNeg || op == api.LxNot:
		return 1
	case op >= api.LxAdd && op <= api.LxOr:
		return 2
	case op == api.LxCall:
		if n, ok := functionArity[name]; ok {
			return n
		}
	}
	return -1
}

// split takes an expression apart: its own node, and its operands' expressions.
func split(x api.LoreExpr) (api.LoreNode, []api.LoreExpr) {
	top := x[len(x)-1]
	rest := x[:len(x)-1]
	under := make([]api.LoreExpr, top.N)
	for i := top.N - 1; i >= 0; i-- {
		begin, need := len(rest), 1
		for need > 0 {
			begin--
			need += rest[begin].N - 1
		}
		under[i], rest = rest[begin:], rest[:begin]
	}
	return top, under
}

// join is an operation on expressions.
func join(top api.LoreNode, under ...api.LoreExpr) api.LoreExpr {
	var out api.LoreExpr
	for _, x := range under {
		out = append(out, x...)
	}
	top.N = len(under)
	return append(out, top)
}

func name(s string) api.LoreExpr { return api.LoreExpr{{Op: api.LxName, Name: s}} }

func whole(n uint64) api.LoreExpr { return api.LoreExpr{{Op: api.LxInt, Word: n}} }

// signs by the Op of nodes.
var signs = map[int]string{api.LxNeg: "-", api.LxNot: "not", api.LxAdd: "+", api.LxSub: "-", api.LxMul: "*", api.LxDiv: "/", api.LxRem: "%", api.LxEq: "==", api.LxNe: "!=", api.LxLt: "<", api.LxLe: "<=", api.LxGt: ">", api.LxGe: ">=", api.LxAnd: "and", api.LxOr: "or"}

// loose writes a tree as tokens with brackets around every operation; of what no text gives it writes what is no text, or another tree's.
type loose struct{ out []string }

func (w *loose) say(tokens ...string) { w.out = append(w.out, tokens...) }

func (w *loose) program(l api.Lore) {
	w.say("program", l.Name, ";")
	for _, d := range l.Decls {
		w.decl(d)
	}
	for hand, steps := range l.Hands {
		if len(steps) > 0 {
			w.say("on", handNames[hand])
			w.block(steps)
		}
	}
}

func at(words []string, i int) string {
	if i < 0 || i >= len(words) {
		return "?"
	}
	return words[i]
}

func (w *loose) decl(d api.LoreDecl) {
	class := at([]string{"?", "const", "param", "state", "agg", "ctl", "lane", "both"}, d.Class)
	kind := at([]string{"?", "int", "real", "bool", "tally"}, int(d.Kind))
	w.say(class)
	switch d.Class {
	case api.LoreConst:
		w.say(d.Name, "=")
		switch d.Kind {
		case api.WordInt:
			w.say(strconv.FormatInt(int64(d.Word), 10))
		case api.WordReal:
			w.say(realText(d.Word))
		default:
			w.say(at([]string{"false", "true"}, int(d.Word)))
		}
	case api.LoreLane:
		w.say(d.Name, kind, at([]string{"?", "min", "max", "minint", "maxint", "add", "and", "or", "nibbles", "tally"}, int(d.Mon)), "into", d.Into)
	case api.LoreBoth:
	default:
		w.say(d.Name, kind)
	}
	w.say(";")
}

func realText(word uint64) string {
	if word > math.MaxUint32 {
		return "?"
	}
	return grain.Dec(uint32(word))
}

func (w *loose) block(steps []api.LoreStep) {
	w.say("{")
	for _, s := range steps {
		w.step(s)
	}
	w.say("}")
}

func (w *loose) step(s api.LoreStep) {
	switch s.Op {
	case api.LsLet:
		w.say("let", s.Name, "=")
		w.expr(s.X)
		w.say(";")
	case api.LsSet, api.LsPut:
		w.say(s.Name, map[int]string{api.LsSet: "=", api.LsPut: "+="}[s.Op])
		w.expr(s.X)
		w.say(";")
	case api.LsClear:
		w.say("clear", s.Name, ";")
	case api.LsIf, api.LsWhile:
		w.say(map[int]string{api.LsIf: "if", api.LsWhile: "while"}[s.Op])
		w.expr(s.X)
		w.block(s.Then)
		if s.Op == api.LsIf && len(s.Else) > 0 {
			w.say("else")
			w.block(s.Else)
		}
	case api.LsSend:
		w.say("send")
		w.expr(s.X)
		if len(s.Y) > 0 {
			w.say(",")
			w.expr(s.Y)
		}
		w.say(";")
	default:
		w.say(at([]string{"skip", "change", "keep", "done", "go"}, s.Op-api.LsSkip), ";")
	}
}

// expr writes one; of what is none it writes a sign that can't be read.
func (w *loose) expr(x api.LoreExpr) {
	ready := 0
	for _, n := range x {
		if n.N != arity(n.Op, n.Name) || n.N < 0 || ready < n.N {
			w.say("?")
			return
		}
		ready += 1 - n.N
	}
	if ready != 1 {
		w.say("?")
		return
	}
	w.tree(x)
}

func (w *loose) tree(x api.LoreExpr) {
	top, under := split(x)
	switch {
	case top.Op == api.LxInt:
		w.say(strconv.FormatUint(top.Word, 10))
	case top.Op == api.LxReal:
		w.say(realText(top.Word))
	case top.Op == api.LxBool:
		w.say(at([]string{"false", "true"}, int(top.Word)))
	case top.Op == api.LxName:
		w.say(top.Name)
	case top.Op == api.LxCall:
		w.say(top.Name, "(")
		for i, arg := range under {
			if i > 0 {
				w.say(",")
			}
			w.tree(arg)
		}
		w.say(")")
	case top.N == 1:
		w.say("(", signs[top.Op])
		w.tree(under[0])
		w.say(")")
	default:
		w.say("(")
		w.tree(under[0])
		w.say(signs[top.Op])
		w.tree(under[1])
		w.say(")")
	}
}

// looseText is a text of a tree with all brackets.
func looseText(l api.Lore) string {
	w := &loose{}
	w.program(l)
	return strings.Join(w.out, " ")
}
