package loom

import (
	"slices"

	"sluice/api"
	"sluice/grain"
)

const (
	ahead    = -1 // of all handlers: the hand of a fault that is in none
	noSum    = -1 // the first word of a sum that is not there
	realBits = 32
	intBits  = 64
)

// fits tells whether all that stands ahead of the handlers may be so (P11.1).
func fits(c *api.Code) bool {
	if c.Words < 1 || c.Words > api.StateWords {
		return false
	}
	kept, rest := c.State[:c.Words], c.State[c.Words:]
	return within(kept, api.WordInt, api.WordTally) && within(rest, api.WordNone, api.WordNone) &&
		within(c.Agg[:], api.WordNone, api.WordTally) && within(c.Ctl[:], api.WordNone, api.WordBool) &&
		oneSum(c.State) && oneSum(c.Agg) &&
		within([]api.WordKind{c.MsgA}, api.WordInt, api.WordBool) && within([]api.WordKind{c.MsgB}, api.WordNone, api.WordBool) &&
		fitsSink(c)
}

// within tells whether all kinds are from one to another.
func within(kinds []api.WordKind, from, to api.WordKind) bool {
	return !slices.ContainsFunc(kinds, func(k api.WordKind) bool { return k < from || k > to })
}

// sumOf tells the first word of a sum.
func sumOf(kinds [api.StateWords]api.WordKind) int { return slices.Index(kinds[:], api.WordTally) }

// oneSum tells whether the words of sums are just one's, or none: the kinds are held against such as have one there.
func oneSum(kinds [api.StateWords]api.WordKind) bool {
	first := sumOf(kinds)
	if first == noSum {
		return true
	}
	if first > api.StateWords-api.TallyWords {
		return false
	}
	want := kinds
	for i := range want {
		if i >= first && i < first+api.TallyWords {
			want[i] = api.WordTally
		} else if want[i] == api.WordTally {
			want[i] = api.WordNone
		}
	}
	return want == kinds
}

// drain is where a word of an update goes: into so many words from at on, by a monoid.
type drain struct {
	at     int
	monoid api.Monoid
	kind   api.WordKind // of what comes
}

// fitsSink tells whether the sink is one, and takes what is sent.
func fitsSink(c *api.Code) bool {
	a, b := drain{c.Sink.A, c.Sink.MonA, c.MsgA}, drain{c.Sink.B, c.Sink.MonB, c.MsgB}
	if !a.fits(c) || !b.fits(c) {
		return false
	}
	return a.at+a.width() <= b.at || b.at+b.width() <= a.at
}

// width is how many words of the state it takes.
func (d drain) width() int {
	switch d.monoid {
	case api.MonNone:
		return 0
	case api.MonTally:
		return api.TallyWords
	}
	return 1
}

// fits tells whether a word may go there.
func (d drain) fits(c *api.Code) bool {
	if d.monoid < api.MonNone || d.monoid > api.MonTally || d.at < 0 || d.at > c.Words-d.width() {
		return false
	}
	switch d.monoid {
	case api.MonNone:
		return d.at == 0
	case api.MonTally:
		return d.at == sumOf(c.State) && d.kind == api.WordReal
	}
	return c.State[d.at] != api.WordTally && d.kind != api.WordNone
}

// fault tells the first fault of a handler: of its length, of an instruction by itself, of a way through it.
func (t *table) fault(c *api.Code, hand int) (at int, wrong bool) {
	list := c.Hands[hand]
	if len(list) == 0 {
		return 0, true
	}
	if len(list) > api.MaxIns {
		return api.MaxIns, true
	}
	for i, ins := range list {
		if !t.has(ins.Op) || !t[ins.Op].hands.has(hand) || !mayBe(c, hand, t[ins.Op].arg, ins.Arg) {
			return i, true
		}
	}
	return newWalk(t, c, hand).fault()
}

// mayBe tells whether an Arg is one of its sort.
func mayBe(c *api.Code, hand int, sort argument, n int64) bool {
	below := func(limit int) bool { return n >= 0 && n < int64(limit) }
	isWord := func(kinds []api.WordKind) bool {
		return below(len(kinds)) && kinds[n] != api.WordNone && kinds[n] != api.WordTally
	}
	isSum := func(first int) bool { return first != noSum && n == int64(first) }
	rules := [...]func() bool{
		noArg:    func() bool { return n == 0 },
		anyArg:   func() bool { return true },
		realArg:  func() bool { return below(1<<realBits) && grain.Class(uint32(n)) != api.FloatNaN },
		boolArg:  func() bool { return below(2) },
		depthArg: func() bool { return below(api.MaxDeep) },
		localArg: func() bool { return below(api.MaxLocals) },
		stateArg: func() bool { return isWord(c.State[:]) },
		aggArg:   func() bool { return isWord(c.Agg[:]) },
		ctlArg:   func() bool { return isWord(c.Ctl[:]) },
		stateSum: func() bool { return isSum(sumOf(c.State)) },
		aggSum:   func() bool { return isSum(sumOf(c.Agg)) },
		bitsArg:  func() bool { return below(intBits) },
		placeArg: func() bool { return below(len(c.Hands[hand])) },
	}
	return rules[sort]()
}
