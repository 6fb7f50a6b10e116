package lore

import (
	"math"

	"sluice/api"
	"sluice/grain"
	"sluice/tally"
)

// trap is what a run of a handler gives up with, by panic.
type trap struct{ err api.Errno }

// player does what one handler means.
type player struct {
	*program
	hand   int
	frame  api.Frame // its State, Agg and Ctl are what they have become
	locals [api.MaxLoreLets]uint64
	most   int
	count  int
	unit   *unit
	effect api.Effect // what was sent, and the flag
}

func newPlayer(p *program, hand int, f api.Frame, most int) *player {
	if hand == api.HandStart {
		f.State = api.State{}
	}
	return &player{program: p, hand: hand, frame: f, most: most, unit: newUnit()}
}

// play is P17.5's, of a program that was filled.
func (p *player) play() (x api.Effect, count int, err api.Errno) {
	defer func() {
		switch gave := recover().(type) {
		case nil:
		case trap:
			x, count, err = api.Effect{}, p.count, gave.err
		default:
			x, count, err = api.Effect{}, 0, api.ErrPanic
		}
	}()
	p.block(p.hands[p.hand])
	ends := [api.Hands]func(p *player){(*player).leaveState, (*player).leaveMessage, (*player).leaveState, (*player).leaveAgg, (*player).leaveCtl}
	ends[p.hand](p)
	return p.effect, p.count, api.OK
}

func (p *player) leaveState() { copy(p.effect.State[:], p.frame.State[:p.code.Words]) }

// leaveMessage: what is sent was laid there when it was.
func (p *player) leaveMessage() {}

func (p *player) leaveAgg() { p.effect.Agg = p.frame.Agg }

func (p *player) leaveCtl() { p.effect.Ctl = p.frame.Ctl }

// begin counts a statement or a node.
func (p *player) begin() {
	if p.count == p.most {
		panic(trap{api.ErrFuel})
	}
	p.count++
}

// block does statements, and tells whether the handler has ended.
func (p *player) block(steps []step) (ended bool) {
	ways := [...]func(p *player, s *step) bool{
		api.LsLet:    (*player).set,
		api.LsSet:    (*player).set,
		api.LsPut:    (*player).put,
		api.LsClear:  (*player).clear,
		api.LsIf:     (*player).choose,
		api.LsWhile:  (*player).loop,
		api.LsSend:   (*player).send,
		api.LsSkip:   (*player).leave,
		api.LsChange: (*player).flag,
		api.LsKeep:   (*player).leave,
		api.LsDone:   (*player).flag,
		api.LsGo:     (*player).leave,
	}
	for i := range steps {
		p.begin()
		if ways[steps[i].op](p, &steps[i]) {
			return true
		}
	}
	return false
}

// words are those that a class of names stands for.
func (p *player) words(class int) []uint64 {
	switch class {
	case api.LoreState:
		return p.frame.State[:]
	case api.LoreAgg:
		return p.frame.Agg[:]
	case api.LoreCtl:
		return p.frame.Ctl[:]
	case letName:
		return p.locals[:]
	}
	return p.values
}

// sum is the tally that a name stands for.
func (p *player) sum(v symbol) []uint64 { return p.words(v.class)[v.at:][:api.TallyWords] }

func (p *player) set(s *step) bool {
	word := p.reckon(s.x)
	p.words(s.into.class)[s.into.at] = word
	return false
}

func (p *player) put(s *step) bool {
	bits := uint32(p.reckon(s.x))
	sum := p.sum(s.into)
	more := tally.Put(tally.Sum(sum), bits)
	copy(sum, more[:])
	return false
}

func (p *player) clear(s *step) bool {
	clear(p.sum(s.into))
	return false
}

func (p *player) choose(s *step) bool {
	if p.reckon(s.x) == 1 {
		return p.block(s.then)
	}
	return p.block(s.other)
}

// loop: its first time was counted as that of any statement.
func (p *player) loop(s *step) bool {
	for p.reckon(s.x) == 1 {
		if p.block(s.then) {
			return true
		}
		p.begin()
	}
	return false
}

func (p *player) send(s *step) bool {
	p.effect.A = p.reckon(s.x)
	if s.y != nil {
		p.effect.B = p.reckon(s.y)
	}
	return p.flag(s)
}

func (p *player) leave(*step) bool { return true }

func (p *player) flag(*step) bool {
	p.effect.Flag = true
	return true
}

// reckon tells an expression's word.
func (p *player) reckon(t tree) uint64 {
	p.begin()
	switch t := t.(type) {
	case *leaf:
		return p.leaf(&t.node)
	case *sole:
		return p.do(t.ins, p.reckon(t.x), 0)
	case *pair:
		return p.pair(t)
	case *call:
		return p.call(t)
	}
	return 0
}

// do does what an instruction does.
func (p *player) do(ins int, x, y uint64) uint64 {
	word, err := p.unit[ins](x, y)
	if err != api.OK {
		panic(trap{err})
	}
	return word
}

func (p *player) leaf(n *node) uint64 {
	v := n.found
	switch {
	case n.Op != api.LxName:
		return n.Word
	case v.class == givenName:
		return p.read(n.kind, p.given(v.at))
	case v.class == letName:
		return p.locals[v.at] // no NaN has come there
	}
	return p.read(n.kind, p.words(v.class)[v.at])
}

// read takes a word, which may be any, as its kind has it.
func (p *player) read(kind api.WordKind, word uint64) uint64 {
	switch kind {
	case api.WordReal:
		if grain.Class(uint32(word)) == api.FloatNaN {
			panic(trap{api.ErrTrapReal})
		}
		return uint64(uint32(word))
	case api.WordBool:
		return truth(word != 0)
	}
	return word
}

// given is the word that an instruction tells of the frame.
func (p *player) given(ins int) uint64 {
	switch f := p.frame; ins {
	case api.OpVertex:
		return uint64(f.Vertex)
	case api.OpOutDeg:
		return min(f.Degrees.Out, math.MaxInt64)
	case api.OpInDeg:
		return min(f.Degrees.In, math.MaxInt64)
	case api.OpSrc:
		return uint64(f.Edge.Src)
	case api.OpDst:
		return uint64(f.Edge.Dst)
	case api.OpWeight:
		return uint64(int32(f.Edge.W))
	case api.OpRealWeight:
		return uint64(f.Edge.W)
	case api.OpBack:
		return truth(f.Back)
	case api.OpChanged:
		return min(f.Changed, math.MaxInt64)
	}
	return uint64(p.frame.Round)
}

func (p *player) pair(t *pair) uint64 {
	x := p.reckon(t.x)
	if t.Op == api.LxAnd && x == 0 || t.Op == api.LxOr && x == 1 {
		return x
	}
	y := p.reckon(t.y)
	if operators[t.Op].turned {
		x, y = y, x
	}
	word := p.do(t.ins, x, y)
	if operators[t.Op].denied {
		word = 1 - word
	}
	return word
}

func (p *player) call(t *call) uint64 {
	switch t.Name {
	case whenName:
		if p.reckon(t.args[0]) == 1 {
			return p.reckon(t.args[1])
		}
		return p.reckon(t.args[2])
	case totalName:
		p.begin() // the tally's name
		return p.total(p.sum(t.args[0].top().found))
	}
	var words [2]uint64
	for i, arg := range t.args {
		words[i] = p.reckon(arg)
	}
	return p.do(t.ins, words[0], words[1])
}

func (p *player) total(sum []uint64) uint64 {
	x, err := tally.Sum(sum).Round(api.RoundEven)
	if err != api.OK {
		panic(trap{api.ErrTrapReal})
	}
	return uint64(grain.Bits(x))
}
