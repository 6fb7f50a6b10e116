package lore_test

import (
	"slices"
	"testing"

	"sluice/api"
	"sluice/lore"
)

// told is what Check answers.
type told struct {
	e        api.Errno
	hand, at int
}

// looker tells what Check should, straight from the chapter: over lists that are gone through each time.
type looker struct {
	l    api.Lore
	hand int
	at   int
	lets []api.LoreDecl // seen
}

// modelCheck tells what Check should; what is no tree is found by reading a text of it.
func modelCheck(l api.Lore) (out told) {
	again, e, _ := lore.Parse(looseText(l))
	if e != api.OK || !same(again, l) {
		return told{api.ErrTree, -1, 0}
	}
	if len(l.Decls) > 48 {
		return told{api.ErrMuch, -1, 0}
	}
	for at := range l.Decls {
		if e := declFault(l.Decls[:at], l.Decls[at]); e != api.OK {
			return told{e, -1, at}
		}
	}
	if !slices.ContainsFunc(l.Decls, func(d api.LoreDecl) bool { return d.Class == api.LoreState }) {
		return told{api.ErrUnknown, -1, len(l.Decls)}
	}
	defer func() {
		if gave := recover(); gave != nil {
			out = gave.(told)
		}
	}()
	for hand, steps := range l.Hands {
		if countNodes(steps) > 96 {
			return told{api.ErrMuch, hand, 0}
		}
		k := &looker{l: l, hand: hand}
		k.steps(steps, 0)
	}
	return told{}
}

func sizeOf(d api.LoreDecl) int { return either(d.Kind == api.WordTally, 6, 1) }

// declFault tells what is wrong with a declaration behind others.
func declFault(before []api.LoreDecl, d api.LoreDecl) api.Errno {
	words, sums, lanes := sizeOf(d), sizeOf(d)/6, 0
	for _, b := range before {
		if b.Name == d.Name {
			return api.ErrDoubled
		}
		if b.Class == d.Class {
			words += sizeOf(b)
			sums += sizeOf(b) / 6
			lanes++
		}
	}
	room := map[int]int{api.LoreState: 8, api.LoreAgg: 8, api.LoreCtl: 4}
	if most, ok := room[d.Class]; ok && (words > most || sums > 1) {
		return api.ErrMuch
	}
	if d.Class != api.LoreLane {
		return api.OK
	}
	if lanes >= 2 {
		return api.ErrMuch
	}
	i := slices.IndexFunc(before, func(b api.LoreDecl) bool { return b.Class == api.LoreState && b.Name == d.Into })
	if i < 0 {
		return api.ErrUnknown
	}
	into := before[i].Kind
	fits := d.Mon == api.MonTally && d.Kind == api.WordReal && into == api.WordTally || d.Mon != api.MonTally && into != api.WordTally && d.Kind == into
	if !fits || slices.ContainsFunc(before, func(b api.LoreDecl) bool { return b.Class == api.LoreLane && b.Into == d.Into }) {
		return api.ErrTyping
	}
	return api.OK
}

func (k *looker) fail(is bool, e api.Errno, at int) {
	if is {
		panic(told{e, k.hand, at})
	}
}

// find tells what a name is declared as; the class of a let is letClass.
func (k *looker) find(name string) api.LoreDecl {
	for _, d := range slices.Concat(k.l.Decls, k.lets) {
		if d.Name == name && d.Class != api.LoreBoth {
			return d
		}
	}
	return api.LoreDecl{}
}

func (k *looker) steps(steps []api.LoreStep, deep int) {
	seen := len(k.lets)
	for _, s := range steps {
		k.step(s, deep)
	}
	k.lets = k.lets[:seen]
}

func (k *looker) step(s api.LoreStep, deep int) {
	at := k.at
	k.at++
	in := func(hands ...int) bool { return slices.Contains(hands, k.hand) }
	where := map[int][]int{api.LsSend: {1}, api.LsSkip: {1}, api.LsChange: {2}, api.LsKeep: {2}, api.LsDone: {4}, api.LsGo: {4}, api.LsClear: {0, 2}, api.LsPut: {0, 2, 3}}
	if hands, ok := where[s.Op]; ok {
		k.fail(!in(hands...), api.ErrUnknown, at)
	}
	d := k.find(s.Name)
	switch s.Op {
	case api.LsSet:
		may := d.Class == letClass || d.Class == api.LoreState && in(0, 2) || d.Class == api.LoreAgg && in(3) || d.Class == api.LoreCtl && in(4)
		k.fail(!may || d.Kind == api.WordTally, api.ErrUnknown, at)
	case api.LsPut:
		may := d.Class == api.LoreState && in(0, 2) || d.Class == api.LoreAgg && in(3)
		k.fail(!may || d.Kind != api.WordTally, api.ErrUnknown, at)
	case api.LsClear:
		k.fail(d.Class != api.LoreState || d.Kind != api.WordTally, api.ErrUnknown, at)
	case api.LsLet:
		k.fail(d.Class != 0, api.ErrDoubled, at)
		k.fail(len(k.lets) >= 6, api.ErrMuch, at)
	case api.LsIf, api.LsWhile:
		k.fail(deep >= 8, api.ErrMuch, at)
	}
	var lanes []api.WordKind
	for _, d := range k.l.Decls {
		if d.Class == api.LoreLane {
			lanes = append(lanes, d.Kind)
		}
	}
	if s.Op == api.LsSend {
		k.fail(len(lanes) != either(len(s.Y) > 0, 2, 1), api.ErrLane, at)
	}
	x, y := k.expr(s.X), k.expr(s.Y)
	switch s.Op {
	case api.LsSet:
		k.fail(x != d.Kind, api.ErrTyping, at)
	case api.LsPut:
		k.fail(x != api.WordReal, api.ErrTyping, at)
	case api.LsIf, api.LsWhile:
		k.fail(x != api.WordBool, api.ErrTyping, at)
	case api.LsSend:
		k.fail(x != lanes[0] || len(s.Y) > 0 && y != lanes[1], api.ErrTyping, at)
	case api.LsLet:
		k.lets = append(k.lets, api.LoreDecl{Class: letClass, Name: s.Name, Kind: x})
	}
	k.steps(s.Then, deep+1)
	k.steps(s.Else, deep+1)
}

// expr tells an expression's kind.
func (k *looker) expr(x api.LoreExpr) api.WordKind {
	if len(x) == 0 {
		return api.WordNone
	}
	kind, _ := k.tree(x, false)
	return kind
}

// tree tells a kind and a depth; the operands' nodes come first, as they lie.
func (k *looker) tree(x api.LoreExpr, summed bool) (kind api.WordKind, depth int) {
	top, under := split(x)
	var kinds []api.WordKind
	for _, u := range under {
		kind, d := k.tree(u, top.Name == "total")
		kinds = append(kinds, kind)
		depth = max(depth, d)
	}
	depth++
	at := k.at
	k.at++
	switch top.Op {
	case api.LxInt, api.LxReal, api.LxBool:
		kind = api.WordKind(top.Op)
	case api.LxName:
		kind = k.read(top.Name, at)
		k.fail(kind == api.WordTally && !summed, api.ErrTyping, at)
	default:
		kind = k.operation(top, under, kinds)
		k.fail(kind == api.WordNone, api.ErrTyping, at)
	}
	k.fail(depth > 12, api.ErrMuch, at)
	return kind, depth
}

func (k *looker) read(name string, at int) api.WordKind {
	givens := map[string]string{"vertex": "023", "outdeg": "0", "indeg": "0", "src": "1", "dst": "1", "weight": "1", "realweight": "1", "back": "1", "changed": "4", "round": "4"}
	hands, ok := givens[name]
	if ok {
		k.fail(!slices.Contains([]byte(hands), byte('0'+k.hand)), api.ErrUnknown, at)
		switch name {
		case "realweight":
			return api.WordReal
		case "back":
			return api.WordBool
		}
		return api.WordInt
	}
	d := k.find(name)
	may := map[int]string{api.LoreConst: "01234", api.LoreParam: "01234", letClass: "01234", api.LoreState: "0123", api.LoreAgg: "234", api.LoreCtl: "1234"}[d.Class]
	k.fail(!slices.Contains([]byte(may), byte('0'+k.hand)), api.ErrUnknown, at)
	return d.Kind
}

// operation tells what comes of one; WordNone, if the kinds are wrong.
func (k *looker) operation(top api.LoreNode, under []api.LoreExpr, kinds []api.WordKind) api.WordKind {
	const i, r, b = api.WordInt, api.WordReal, api.WordBool
	all := func(kind api.WordKind) bool {
		return !slices.ContainsFunc(kinds, func(k api.WordKind) bool { return k != kind })
	}
	name := top.Name
	switch {
	case name == "when":
		return either(kinds[0] == b && kinds[1] == kinds[2], kinds[1], 0)
	case name == "total":
		return either(kinds[0] == api.WordTally, r, 0)
	case name == "shl" || name == "shr":
		by := under[1][len(under[1])-1]
		return either(kinds[0] == i && by.Op == api.LxInt && by.Word < 64, i, 0)
	case name == "real":
		return either(all(i), r, 0)
	case name == "int":
		return either(all(r), i, 0)
	case name == "sqrt":
		return either(all(r), r, 0)
	case name == "band" || name == "bor" || name == "bxor" || top.Op == api.LxRem:
		return either(all(i), i, 0)
	case top.Op == api.LxNot || top.Op == api.LxAnd || top.Op == api.LxOr:
		return either(all(b), b, 0)
	case top.Op == api.LxEq || top.Op == api.LxNe:
		return either(all(i) || all(r) || all(b), b, 0)
	case top.Op >= api.LxLt && top.Op <= api.LxGe:
		return either(all(i) || all(r), b, 0)
	}
	return either(all(i), i, either(all(r), r, 0))
}

// twist changes something of a tree.
func (m *maker) twist(l *api.Lore) {
	if len(l.Decls) > 0 && m.IntN(4) == 0 {
		m.twistDecl(l)
		return
	}
	var lists []*[]api.LoreStep
	var walk func(list *[]api.LoreStep)
	walk = func(list *[]api.LoreStep) {
		lists = append(lists, list)
		for i := range *list {
			walk(&(*list)[i].Then)
			walk(&(*list)[i].Else)
		}
	}
	for hand := range l.Hands {
		walk(&l.Hands[hand])
	}
	list := pickOne(m.Rand, lists...)
	other := pickOne(m.Rand, lists...)
	if len(*list) == 0 {
		return
	}
	at := m.IntN(len(*list))
	s := &(*list)[at]
	switch m.IntN(11) {
	case 0:
		*list = slices.Delete(*list, at, at+1)
	case 1:
		*list = slices.Insert(*list, at, copySteps((*list)[at : at+1])[0])
	case 2:
		if len(*other) > 0 {
			*list = append(*list, copySteps(*other)...)
		}
	case 3:
		s.Name = pickOne(m.Rand, "v1", "v5", "v8", "q1", "q9", "", "on", pickOne(m.Rand, l.Decls...).Name)
	case 4:
		s.Op = m.IntN(14)
	case 5:
		s.Then, s.Else = s.Else, s.Then
	case 6:
		s.X, s.Y = s.Y, s.X
	case 7:
		l.Hands[api.HandScatter] = slices.Insert(l.Hands[api.HandScatter], 0, pickOne(m.Rand, api.LoreStep{Op: api.LsSend, X: m.leaf(m.kind())}, api.LoreStep{Op: api.LsSend, X: whole(1), Y: whole(2)}))
	default:
		if len(s.X) > 0 {
			m.twistExpr(l, s)
		}
	}
}

func (m *maker) twistDecl(l *api.Lore) {
	at := m.IntN(len(l.Decls))
	d := &l.Decls[at]
	other := pickOne(m.Rand, l.Decls...)
	switch m.IntN(9) {
	case 0:
		l.Decls = slices.Delete(l.Decls, at, at+1)
	case 1:
		l.Decls = append(l.Decls, other)
	case 2:
		d.Name = pickOne(m.Rand, other.Name, "q1", "", "q2")
	case 3:
		d.Kind = api.WordKind(m.IntN(6))
	case 4:
		d.Class = m.IntN(9)
	case 5:
		d.Into, d.Mon = pickOne(m.Rand, other.Name, ""), api.Monoid(m.IntN(11))
	case 6:
		l.Decls[at], l.Decls[0] = l.Decls[0], l.Decls[at]
	case 7:
		d.Word = m.word()
	default:
		*d = other
		d.Name = "w" + d.Name
	}
}

func (m *maker) twistExpr(l *api.Lore, s *api.LoreStep) {
	at := m.IntN(len(s.X))
	n := &s.X[at]
	switch m.IntN(6) {
	case 0:
		n.Op = m.IntN(22)
	case 1:
		n.Name = pickOne(m.Rand, "v1", "v3", "v7", "q1", "vertex", "back", "round", "outdeg", "min", "total", "shl", "real", "", pickOne(m.Rand, l.Decls...).Name)
	case 2:
		n.Word = m.word()
	case 3: // the same number of operands, another operation
		if n.N == 2 {
			*n = api.LoreNode{Op: api.LxAdd + m.IntN(13), N: 2}
		} else if n.N == 0 {
			*n = m.leaf(m.kind())[0]
		}
	case 4:
		s.X = slices.Concat(s.X, api.LoreExpr{{Op: pickOne(m.Rand, api.LxNeg, api.LxNot), N: 1}})
	default:
		s.X = slices.Concat(s.X, s.X, api.LoreExpr{{Op: api.LxAdd + m.IntN(13), N: 2}})
	}
}

// TestCheckModel: trees at random with some faults, of which the first is told.
func TestCheckModel(t *testing.T) {
	m := &maker{Rand: dice(8)}
	seen := map[api.Errno]int{}
	for range 400 {
		m.fresh()
		for range 12 {
			l := copyOf(m.l)
			m.hand = m.IntN(5)
			for range 1 + m.IntN(3) {
				m.twist(&l)
			}
			want := modelCheck(l)
			seen[want.e]++
			if e, hand, at := lore.Check(l); (told{e, hand, at}) != want {
				t.Fatalf("P17.1: %s %v: %d, %d, %d, want %v", textOf(l), l, e, hand, at, want)
			}
			args := m.args()
			if _, e := lore.Compile(l, args...); e != want.e && !(want.e == api.OK && e == api.ErrParam) {
				t.Fatalf("P17.4: %d, want %v", e, want)
			}
			if text, e := lore.Print(l); (e == api.ErrTree) != (want.e == api.ErrTree) || e == api.OK && !same(read(t, text), l) {
				t.Fatalf("P17.3: %s %v: %d", text, l, e)
			}
		}
	}
	for e := api.ErrUnknown; e <= api.ErrTree; e++ {
		if seen[e] < 5 && e != api.ErrParam {
			t.Errorf("only %d of %d", seen[e], e)
		}
	}
	if seen[api.OK] < 100 {
		t.Errorf("only %d are right", seen[api.OK])
	}
}
