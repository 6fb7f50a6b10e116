package lore_test

import (
	"math"
	"math/rand/v2"
	"slices"
	"strconv"

	"sluice/api"
)

// maker makes programs that Check takes.
type maker struct {
	*rand.Rand
	l     api.Lore
	hand  int
	lets  []api.LoreDecl // those that are seen, as if they were declared
	made  int            // names of lets
	deep  int            // ifs and whiles that are open
	lanes []api.WordKind
}

const letClass = 99

func (m *maker) kind() api.WordKind { return api.WordKind(1 + m.IntN(3)) }

func (m *maker) declare(d api.LoreDecl) {
	if d.Class != api.LoreBoth {
		d.Name = "v" + strconv.Itoa(len(m.l.Decls))
	}
	m.l.Decls = append(m.l.Decls, d)
}

// fresh begins a program with declarations of every class.
func (m *maker) fresh() {
	m.l, m.lanes = api.Lore{Name: "p"}, nil
	m.lets, m.deep = nil, 0
	for range 1 + m.IntN(3) {
		kind := m.kind()
		m.declare(api.LoreDecl{Class: api.LoreConst, Kind: kind, Word: m.constant(kind)})
	}
	for range m.IntN(4) {
		m.declare(api.LoreDecl{Class: api.LoreParam, Kind: m.kind()})
	}
	if m.IntN(2) == 0 {
		m.declare(api.LoreDecl{Class: api.LoreBoth})
	}
	m.words(api.LoreState, 8)
	m.words(api.LoreAgg, 8)
	for range m.IntN(5) {
		m.declare(api.LoreDecl{Class: api.LoreCtl, Kind: m.kind()})
	}
	into := map[string]bool{}
	for range m.IntN(4) {
		d := pickOne(m.Rand, m.l.Decls...)
		if d.Class != api.LoreState || into[d.Name] || len(m.lanes) == 2 {
			continue
		}
		into[d.Name] = true
		lane := api.LoreDecl{Class: api.LoreLane, Kind: d.Kind, Mon: api.Monoid(1 + m.IntN(8)), Into: d.Name}
		if d.Kind == api.WordTally {
			lane.Kind, lane.Mon = api.WordReal, api.MonTally
		}
		m.lanes = append(m.lanes, lane.Kind)
		m.declare(lane)
	}
	for hand := range m.l.Hands {
		m.hand = hand
		m.l.Hands[hand] = m.handler()
	}
}

// words declares states or aggs.
func (m *maker) words(class, room int) {
	for range 1 + m.IntN(3) {
		m.declare(api.LoreDecl{Class: class, Kind: m.kind()})
		room--
	}
	if room >= 6 && m.IntN(2) == 0 {
		m.declare(api.LoreDecl{Class: class, Kind: api.WordTally})
	}
}

func (m *maker) constant(kind api.WordKind) uint64 {
	switch kind {
	case api.WordInt:
		return pickOne(m.Rand, 0, 1, 3, 1<<64-1, 1<<64-2, 1<<63-1, 1<<63+1, m.Uint64()|1)
	case api.WordReal:
		return uint64(pickOne(m.Rand, 0, 0x3f800000, 0xbf800000, 0x80000000, 0x7f7fffff, 1, 0x4b800000, m.Uint32N(0x7f800000)))
	}
	return m.Uint64N(2)
}

// may tells whether a declared name may be read, or be set, in this handler.
func (m *maker) may(d api.LoreDecl, set bool) bool {
	h := m.hand
	switch d.Class {
	case letClass:
		return true
	case api.LoreConst, api.LoreParam:
		return !set
	case api.LoreState:
		return !set && h != api.HandTurn || h == api.HandStart || h == api.HandApply
	case api.LoreAgg:
		return !set && h >= api.HandApply || h == api.HandFold
	case api.LoreCtl:
		return !set && h != api.HandStart || h == api.HandTurn
	}
	return false
}

// names tells those of a kind that may be read, or be set.
func (m *maker) names(kind api.WordKind, set bool) []string {
	var out []string
	for _, list := range [][]api.LoreDecl{m.l.Decls, m.lets, m.lets} {
		for _, d := range list {
			if d.Kind == kind && m.may(d, set) {
				out = append(out, d.Name)
			}
		}
	}
	if set || kind == api.WordTally {
		return out
	}
	givens := map[api.WordKind][]string{
		api.WordInt:  [][]string{{"vertex", "outdeg", "indeg"}, {"src", "dst", "weight"}, {"vertex"}, {"vertex"}, {"changed", "round"}}[m.hand],
		api.WordReal: [][]string{nil, {"realweight"}, nil, nil, nil}[m.hand],
		api.WordBool: [][]string{nil, {"back"}, nil, nil, nil}[m.hand],
	}
	return append(out, givens[kind]...)
}

func (m *maker) leaf(kind api.WordKind) api.LoreExpr {
	if list := m.names(kind, false); len(list) > 0 && m.IntN(3) > 0 {
		return name(pickOne(m.Rand, list...))
	}
	n := api.LoreNode{Op: int(kind), Word: m.constant(kind)} // LxInt, LxReal and LxBool have the numbers of the kinds
	switch kind {
	case api.WordInt:
		n.Word &^= 1 << 63
	case api.WordReal:
		n.Word &^= 1 << 31
	}
	return api.LoreExpr{n}
}

func call(fn string, under ...api.LoreExpr) api.LoreExpr {
	return join(api.LoreNode{Op: api.LxCall, Name: fn}, under...)
}

// expr makes an expression of a kind, no deeper than it may be.
func (m *maker) expr(kind api.WordKind, deep int) api.LoreExpr {
	if deep <= 1 || m.IntN(4) == 0 {
		return m.leaf(kind)
	}
	at := func(kind api.WordKind) api.LoreExpr { return m.expr(kind, deep-1) }
	if m.IntN(8) == 0 {
		return call("when", at(api.WordBool), at(kind), at(kind))
	}
	switch kind {
	case api.WordInt:
		return m.wholeExpr(at)
	case api.WordReal:
		return m.realExpr(at)
	}
	switch m.IntN(4) {
	case 0:
		return operation(api.LxNot, at(kind))
	case 1:
		return operation(pickOne(m.Rand, api.LxAnd, api.LxOr), at(kind), at(kind))
	case 2:
		return operation(pickOne(m.Rand, api.LxEq, api.LxNe), at(kind), at(kind))
	}
	of := api.WordKind(1 + m.IntN(2))
	return operation(api.LxEq+m.IntN(6), at(of), at(of))
}

func (m *maker) wholeExpr(at func(api.WordKind) api.LoreExpr) api.LoreExpr {
	switch m.IntN(6) {
	case 0:
		return pickOne(m.Rand, operation(api.LxNeg, at(api.WordInt)), call("abs", at(api.WordInt)))
	case 1:
		return call("int", at(api.WordReal))
	case 2:
		return call(pickOne(m.Rand, "shl", "shr"), at(api.WordInt), whole(m.Uint64N(64)))
	case 3:
		return call(pickOne(m.Rand, "min", "max", "band", "bor", "bxor"), at(api.WordInt), at(api.WordInt))
	}
	return operation(api.LxAdd+m.IntN(5), at(api.WordInt), at(api.WordInt))
}

func (m *maker) realExpr(at func(api.WordKind) api.LoreExpr) api.LoreExpr {
	switch m.IntN(6) {
	case 0:
		return pickOne(m.Rand, operation(api.LxNeg, at(api.WordReal)), call("abs", at(api.WordReal)), call("sqrt", at(api.WordReal)))
	case 1:
		return call("real", at(api.WordInt))
	case 2:
		if sums := m.names(api.WordTally, false); len(sums) > 0 {
			return call("total", name(pickOne(m.Rand, sums...)))
		}
		return call("real", at(api.WordInt))
	case 3:
		return call(pickOne(m.Rand, "min", "max"), at(api.WordReal), at(api.WordReal))
	}
	return operation(api.LxAdd+m.IntN(4), at(api.WordReal), at(api.WordReal))
}

// handler makes one that is not too long.
func (m *maker) handler() []api.LoreStep {
	for {
		m.lets, m.deep = nil, 0
		steps := m.block(1 + m.IntN(6))
		if countNodes(steps) <= api.MaxLoreNodes {
			return steps
		}
	}
}

func countNodes(steps []api.LoreStep) int {
	n := 0
	for _, s := range steps {
		n += 1 + len(s.X) + len(s.Y) + countNodes(s.Then) + countNodes(s.Else)
	}
	return n
}

func (m *maker) block(size int) []api.LoreStep {
	seen := len(m.lets)
	var out []api.LoreStep
	for range size {
		out = append(out, m.step()...)
	}
	m.lets = m.lets[:seen]
	return out
}

// let makes a let of a kind.
func (m *maker) let(kind api.WordKind, x api.LoreExpr) api.LoreStep {
	m.made++
	s := api.LoreStep{Op: api.LsLet, Name: "q" + strconv.Itoa(m.made%50), X: x}
	m.lets = append(m.lets, api.LoreDecl{Class: letClass, Name: s.Name, Kind: kind})
	return s
}

func (m *maker) step() []api.LoreStep {
	const deep = 4
	switch choice := m.IntN(12); {
	case choice < 2 && len(m.lets) < api.MaxLoreLets:
		kind := m.kind()
		return []api.LoreStep{m.let(kind, m.expr(kind, deep))}
	case choice < 5:
		kind := m.kind()
		if list := m.names(kind, true); len(list) > 0 {
			return []api.LoreStep{{Op: api.LsSet, Name: pickOne(m.Rand, list...), X: m.expr(kind, deep)}}
		}
	case choice < 7:
		return m.sum()
	case choice < 9 && m.deep < api.MaxLoreDepth:
		m.deep++
		s := api.LoreStep{Op: api.LsIf, X: m.expr(api.WordBool, deep), Then: m.block(m.IntN(3)), Else: m.block(m.IntN(3))}
		m.deep--
		return []api.LoreStep{s}
	case choice < 10 && m.deep < api.MaxLoreDepth:
		return m.loop()
	case choice == 11 && m.IntN(2) == 0:
		return m.end()
	}
	return nil
}

// sum puts to a tally, or clears it.
func (m *maker) sum() []api.LoreStep {
	list := m.names(api.WordTally, true)
	if len(list) == 0 {
		return nil
	}
	s := api.LoreStep{Op: api.LsPut, Name: pickOne(m.Rand, list...)}
	if m.hand != api.HandFold && m.IntN(4) == 0 {
		s.Op = api.LsClear
		return []api.LoreStep{s}
	}
	s.X = m.expr(api.WordReal, 3)
	return []api.LoreStep{s}
}

// loop makes one that mostly ends.
func (m *maker) loop() []api.LoreStep {
	m.deep++
	defer func() { m.deep-- }()
	if len(m.lets) == api.MaxLoreLets || m.IntN(6) == 0 {
		return []api.LoreStep{{Op: api.LsWhile, X: m.expr(api.WordBool, 3), Then: m.block(m.IntN(3))}}
	}
	i := m.let(api.WordInt, whole(0))
	seen := slices.Clone(m.lets)
	m.lets = m.lets[:len(m.lets)-1] // of no kind, so that nothing else is done to it
	m.lets = append(m.lets, api.LoreDecl{Class: letClass, Name: i.Name, Kind: 77})
	inner := m.block(m.IntN(3))
	m.lets = seen
	step := api.LoreStep{Op: api.LsSet, Name: i.Name, X: operation(api.LxAdd, name(i.Name), whole(1))}
	return []api.LoreStep{i, {Op: api.LsWhile, X: operation(api.LxLt, name(i.Name), whole(m.Uint64N(5))), Then: append(inner, step)}}
}

func (m *maker) end() []api.LoreStep {
	switch {
	case m.hand == api.HandScatter && len(m.lanes) > 0 && m.IntN(3) > 0:
		s := api.LoreStep{Op: api.LsSend, X: m.expr(m.lanes[0], 4)}
		if len(m.lanes) == 2 {
			s.Y = m.expr(m.lanes[1], 4)
		}
		return []api.LoreStep{s}
	case m.hand == api.HandScatter:
		return []api.LoreStep{{Op: api.LsSkip}}
	case m.hand == api.HandApply:
		return []api.LoreStep{{Op: pickOne(m.Rand, api.LsChange, api.LsKeep)}}
	case m.hand == api.HandTurn:
		return []api.LoreStep{{Op: pickOne(m.Rand, api.LsDone, api.LsGo)}}
	}
	return nil
}

// args are what the params stand for.
func (m *maker) args() []api.LoreArg {
	var out []api.LoreArg
	for _, d := range m.l.Decls {
		if d.Class == api.LoreParam {
			a := api.LoreArg{Name: d.Name, Kind: d.Kind, Word: m.constant(d.Kind)}
			if d.Kind == api.WordInt && m.IntN(8) == 0 {
				a.Word = 1 << 63
			}
			if d.Kind == api.WordReal && m.IntN(8) == 0 {
				a.Word = pickOne(m.Rand, uint64(0x7f800000), 0xff800000)
			}
			out = append(out, a)
		}
	}
	m.Shuffle(len(out), func(i, j int) { out[i], out[j] = out[j], out[i] })
	return out
}

// word is any, most often one that means something by some kind.
func (m *maker) word() uint64 {
	return pickOne(m.Rand, 0, 1, 2, 3, 5, 1<<63, 1<<64-1, 1<<63-1, 0x3f800000, 0xbf000000, 0x40490fdb, uint64(m.Uint32N(0x7f800000)), m.constant(api.WordReal), m.Uint64(), pickOne(m.Rand, uint64(0x7fc00000), 0x7f800000, 0xff800000, 1<<40|0x3f800000))
}

func (m *maker) frame() api.Frame {
	f := api.Frame{Vertex: m.Uint32(), Degrees: api.Degrees{Out: m.word(), In: m.word()}, Edge: api.Edge{Src: m.Uint32N(9), Dst: m.Uint32(), W: uint32(m.word())}, Back: m.IntN(2) == 0, Changed: m.word(), Round: m.IntN(9)}
	for i := range f.State {
		f.State[i], f.Agg[i] = m.word(), m.word()
	}
	for i := range f.Ctl {
		f.Ctl[i] = m.word()
	}
	if m.IntN(3) == 0 { // words by which sums are numbers
		for i := range f.State {
			f.State[i], f.Agg[i] = uint64(m.IntN(4)), uint64(m.IntN(4))
		}
		f.Vertex, f.Round = m.Uint32N(3), math.MaxInt
	}
	return f
}
