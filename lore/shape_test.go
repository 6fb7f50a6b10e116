package lore_test

import (
	"slices"
	"strings"
	"testing"

	"sluice/api"
	"sluice/lore"
)

// noTree: all that looks at a tree first tells that it is none.
func noTree(t *testing.T, what string, l api.Lore) {
	t.Helper()
	if e, hand, at := lore.Check(l); e != api.ErrTree || hand != -1 || at != 0 {
		t.Errorf("P17.1: %s: %d, %d, %d", what, e, hand, at)
	}
	if text, e := lore.Print(l); text != "" || e != api.ErrTree {
		t.Errorf("P17.3: %s: %q, %d", what, text, e)
	}
	if _, e := lore.Compile(l); e != api.ErrTree {
		t.Errorf("P17.4: %s: %d", what, e)
	}
	if x, n, e := lore.Interp(l, nil, 0, api.Frame{}, 10); x != (api.Effect{}) || n != 0 || e != api.ErrTree {
		t.Errorf("P17.5: %s: %d", what, e)
	}
}

// isTree: a text can give it, whatever else is wrong.
func isTree(t *testing.T, what string, l api.Lore) {
	t.Helper()
	if e, _, _ := lore.Check(l); e == api.ErrTree {
		t.Errorf("P17.1: %s", what)
	}
	if text, e := lore.Print(l); e != api.OK || !same(read(t, text), l) {
		t.Errorf("P17.3: %s: %q, %d", what, text, e)
	}
}

var badNames = []string{"", "1", "1a", "a b", "a-b", "a.b", " a", "a ", "é", "a\x00", "on", "min", "vertex", "none", "both", strings.Repeat("n", 25), "a;"}

func TestShapeNames(t *testing.T) {
	good := read(t, "program p; state x int; lane l int add into x; on start { let q = 1; x = q; x += 1.5; clear x; }")
	for _, bad := range badNames {
		for what, spoil := range map[string]func(l *api.Lore){
			"program":     func(l *api.Lore) { l.Name = bad },
			"declaration": func(l *api.Lore) { l.Decls[0].Name = bad },
			"lane":        func(l *api.Lore) { l.Decls[1].Name = bad },
			"into":        func(l *api.Lore) { l.Decls[1].Into = bad },
			"let":         func(l *api.Lore) { l.Hands[0][0].Name = bad },
			"set":         func(l *api.Lore) { l.Hands[0][1].Name = bad },
			"put":         func(l *api.Lore) { l.Hands[0][2].Name = bad },
			"clear":       func(l *api.Lore) { l.Hands[0][3].Name = bad },
		} {
			l := copyOf(good)
			spoil(&l)
			noTree(t, what+" "+bad, l)
		}
		l := copyOf(good)
		l.Hands[0][1].X[0].Name = bad
		if bad == "vertex" {
			isTree(t, "a given", l)
		} else {
			noTree(t, "node "+bad, l)
		}
		l.Hands[0][1].X = api.LoreExpr{{Op: api.LxInt}, {Op: api.LxInt}, {Op: api.LxCall, N: 2, Name: bad}}
		if bad == "min" {
			isTree(t, "a function", l)
		} else {
			noTree(t, "call "+bad, l)
		}
	}
	isTree(t, "good", good)
}

func TestShapeDeclarations(t *testing.T) {
	decl := func(d api.LoreDecl) api.Lore {
		return api.Lore{Name: "p", Decls: []api.LoreDecl{{Class: api.LoreBoth}, d}}
	}
	real := func(bits uint64) api.LoreDecl {
		return api.LoreDecl{Class: api.LoreConst, Name: "c", Kind: api.WordReal, Word: bits}
	}
	for class := -2; class <= 10; class++ {
		for kind := api.WordKind(-1); kind <= 6; kind++ {
			d := api.LoreDecl{Class: class, Name: "c", Kind: kind}
			if class == api.LoreLane {
				d.Mon, d.Into = api.MonAdd, "x"
			}
			sums := class == api.LoreState || class == api.LoreAgg
			if class >= api.LoreConst && class <= api.LoreLane && kind >= api.WordInt && (kind <= api.WordBool || kind == api.WordTally && sums) {
				isTree(t, "a declaration", decl(d))
				for _, spoil := range []func(d *api.LoreDecl){
					func(d *api.LoreDecl) { d.Word += 1 << 63 }, func(d *api.LoreDecl) { d.Mon += 9 }, func(d *api.LoreDecl) { d.Mon -= 6 }, func(d *api.LoreDecl) { d.Into += "é" }, func(d *api.LoreDecl) { d.Name = "" },
				} {
					other := d
					spoil(&other)
					noTree(t, "a field of a declaration", decl(other))
				}
				if class != api.LoreConst {
					d.Word = 1
					noTree(t, "a word", decl(d))
				}
			} else {
				noTree(t, "a declaration", decl(d))
			}
		}
	}
	isTree(t, "both", decl(api.LoreDecl{Class: api.LoreBoth}))
	for _, d := range []api.LoreDecl{{Name: "q"}, {Kind: api.WordInt}, {Word: 1}, {Mon: api.MonMin}, {Into: "x"}} {
		d.Class = api.LoreBoth
		noTree(t, "both", decl(d))
	}
	for word, fine := range map[uint64]bool{0: true, 1: true, 1<<63 - 1: true, 1 << 63: false, 1<<63 + 1: true, 1<<64 - 1: true} {
		check := either(fine, isTree, noTree)
		check(t, "an int", decl(api.LoreDecl{Class: api.LoreConst, Name: "c", Kind: api.WordInt, Word: word}))
	}
	for bits, fine := range map[uint64]bool{0: true, 1: true, 0x80000000: true, 0x7f7fffff: true, 0xff7fffff: true, 0x7f800000: false, 0xff800000: false, 0x7f800001: false, 0xffc00000: false, 0x7fc00000: false, 1 << 32: false, 1<<32 + 1: false, 1<<64 - 1: false, 0x3f800000: true, 0x80000001: true} {
		check := either(fine, isTree, noTree)
		check(t, "a real", decl(real(bits)))
	}
	for word, fine := range map[uint64]bool{0: true, 1: true, 2: false, 1<<64 - 1: false} {
		check := either(fine, isTree, noTree)
		check(t, "a bool", decl(api.LoreDecl{Class: api.LoreConst, Name: "c", Kind: api.WordBool, Word: word}))
	}
	for mon := api.Monoid(-2); mon < 13; mon++ {
		check := either(mon >= api.MonMin && mon <= api.MonTally, isTree, noTree)
		check(t, "a monoid", decl(api.LoreDecl{Class: api.LoreLane, Name: "l", Kind: api.WordInt, Mon: mon, Into: "x"}))
	}
}

func TestShapeStatements(t *testing.T) {
	x, step := whole(1), []api.LoreStep{{Op: api.LsGo}}
	hand := func(s api.LoreStep) api.Lore {
		l := api.Lore{Name: "p"}
		l.Hands[api.HandApply] = []api.LoreStep{{Op: api.LsSkip}, {Op: api.LsIf, X: name("a"), Else: []api.LoreStep{{Op: api.LsWhile, X: name("b"), Then: []api.LoreStep{s}}}}}
		return l
	}
	for op := -3; op <= 20; op++ {
		for fields := range 32 {
			s := api.LoreStep{Op: op}
			has := func(bit int) bool { return fields>>bit&1 == 1 }
			if has(0) {
				s.Name = "n"
			}
			if has(1) {
				s.X = x
			}
			if has(2) {
				s.Y = x
			}
			if has(3) {
				s.Then = step
			}
			if has(4) {
				s.Else = step
			}
			fine := false
			switch op {
			case api.LsLet, api.LsSet, api.LsPut:
				fine = fields == 3
			case api.LsClear:
				fine = fields == 1
			case api.LsIf:
				fine = fields&^24 == 2
			case api.LsWhile:
				fine = fields&^8 == 2
			case api.LsSend:
				fine = fields&^4 == 2
			case api.LsSkip, api.LsChange, api.LsKeep, api.LsDone, api.LsGo:
				fine = fields == 0
			}
			either(fine, isTree, noTree)(t, "a statement", hand(s))
			if fine { // empty lists are as none
				if s.X == nil {
					s.X = api.LoreExpr{}
				}
				if s.Y == nil {
					s.Y = api.LoreExpr{}
				}
				if s.Then == nil {
					s.Then = []api.LoreStep{}
				}
				isTree(t, "a statement with empty lists", hand(s))
			}
		}
	}
	for _, where := range []func(*api.LoreStep, []api.LoreStep){func(s *api.LoreStep, l []api.LoreStep) { s.Then = l }, func(s *api.LoreStep, l []api.LoreStep) { s.Else = l }} {
		s := api.LoreStep{Op: api.LsIf, X: name("a")}
		where(&s, []api.LoreStep{{Op: api.LsGo}, {Op: api.LsGo, Name: "q"}})
		noTree(t, "an inner statement", hand(s))
	}
	for h := range handNames {
		l := api.Lore{Name: "p"}
		l.Hands[h] = []api.LoreStep{{Op: 13}}
		noTree(t, handNames[h], l)
	}
}

func TestShapeExpressions(t *testing.T) {
	with := func(s api.LoreStep) api.Lore {
		l := api.Lore{Name: "p"}
		l.Hands[api.HandFold] = []api.LoreStep{s}
		return l
	}
	try := func(what string, fine bool, x api.LoreExpr) {
		t.Helper()
		check := either(fine, isTree, noTree)
		for _, op := range []int{api.LsLet, api.LsSet, api.LsPut} {
			check(t, what, with(api.LoreStep{Op: op, Name: "v", X: x}))
		}
		check(t, what, with(api.LoreStep{Op: api.LsIf, X: x}))
		check(t, what, with(api.LoreStep{Op: api.LsWhile, X: x}))
		check(t, what, with(api.LoreStep{Op: api.LsSend, X: x}))
		check(t, what, with(api.LoreStep{Op: api.LsSend, X: name("a"), Y: x}))
	}
	for op := -2; op <= 25; op++ {
		for n := -2; n <= 4; n++ {
			for _, called := range []string{"", "a", "min", "abs", "when", "vertex", "total"} {
				top := api.LoreNode{Op: op, N: n, Name: called}
				want := arity(op, called)
				named := op == api.LxName || op == api.LxCall
				fine := n == want && want >= 0 && (called == "") != named
				if op == api.LxName {
					fine = n == 0 && (called == "a" || called == "vertex")
				}
				x := api.LoreExpr{}
				for range n {
					x = append(x, whole(1)...)
				}
				try("a node", fine, append(x, top))
				if named || op >= api.LxNeg {
					top.Word = 1
					try("a word", false, append(slices.Clone(x), top))
				}
				if n > 0 {
					try("too few operands", false, append(slices.Clone(x[1:]), top))
				}
				if n > 0 && fine {
					top.Word = 0
					try("too many operands", false, append(append(slices.Clone(x), x[0]), top))
				}
			}
		}
	}
	for word, fine := range map[uint64]bool{0: true, 1<<63 - 1: true, 1 << 63: false, 1<<64 - 1: false} {
		try("an int", fine, whole(word))
	}
	for bits, fine := range map[uint64]bool{0: true, 1: true, 0x7f7fffff: true, 0x7f800000: false, 0x7f800001: false, 0x7fffffff: false, 0x80000000: false, 0x80000001: false, 0xbf800000: false, 1 << 32: false, 1<<32 + 1: false, 1 << 63: false} {
		try("a real", fine, api.LoreExpr{{Op: api.LxReal, Word: bits}})
	}
	for word, fine := range map[uint64]bool{0: true, 1: true, 2: false, 1<<64 - 1: false} {
		try("a bool", fine, api.LoreExpr{{Op: api.LxBool, Word: word}})
	}
	try("two expressions", false, append(whole(1), whole(2)...))
	try("an operation without operands", false, api.LoreExpr{{Op: api.LxAdd, N: 2}})
	try("one operand", false, append(whole(1), api.LoreNode{Op: api.LxAdd, N: 2}))
	try("an operand behind", false, append(join(api.LoreNode{Op: api.LxNeg}, whole(1)), whole(1)...))
	noTree(t, "nothing", api.Lore{})
	noTree(t, "no expression", with(api.LoreStep{Op: api.LsSend, Y: whole(1)}))
}

// TestShapeFirst: that it is no tree goes ahead of all else that is wrong.
func TestShapeFirst(t *testing.T) {
	var l api.Lore
	l.Name = "p"
	for range 60 {
		l.Decls = append(l.Decls, api.LoreDecl{Class: api.LoreBoth})
	}
	for range 200 {
		l.Hands[0] = append(l.Hands[0], api.LoreStep{Op: api.LsDone})
	}
	isTree(t, "all but the tree is wrong", l)
	l.Hands[4] = []api.LoreStep{{Op: api.LsGo, Name: "x"}}
	noTree(t, "the last statement", l)
	l.Hands[4] = nil
	l.Decls[59].Name = "x"
	noTree(t, "the last declaration", l)
}
