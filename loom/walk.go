package loom

import (
	"slices"

	"sluice/api"
)

// picture is what goes with an instruction: the kinds on the stack (nothing above them, so that two stacks are the same just if the arrays are) and in the locals.
type picture struct {
	stack  [api.MaxDeep]api.WordKind
	deep   int
	locals [api.MaxLocals]api.WordKind // WordNone: nothing
}

// walk is P11.2's, of one handler.
type walk struct {
	table    *table
	code     *api.Code
	hand     int
	list     []api.Ins
	pictures []picture // of each instruction, and of what is beyond the last
	reached  []bool
	due      []bool
}

func newWalk(t *table, c *api.Code, hand int) *walk {
	list := c.Hands[hand]
	return &walk{
		table:    t,
		code:     c,
		hand:     hand,
		list:     list,
		pictures: make([]picture, len(list)+1),
		reached:  make([]bool, len(list)+1),
		due:      make([]bool, len(list)+1),
	}
}

// fault walks, and tells the first fault.
func (w *walk) fault() (at int, wrong bool) {
	w.reached[0], w.due[0] = true, true
	for !wrong {
		at = slices.Index(w.due, true)
		if at < 0 {
			return 0, false
		}
		w.due[at] = false
		wrong = at == len(w.list) || !w.pass(at)
	}
	return at, true
}

// pass takes an instruction, and goes on to those that may follow; it tells whether all fits.
func (w *walk) pass(at int) bool {
	behind := w.pictures[at]
	if !w.play(&behind, w.list[at]) {
		return false
	}
	for _, to := range follow(w.list, at) {
		if !w.goOn(to, behind) {
			return false
		}
	}
	return true
}

// follow tells the instructions that may follow one.
func follow(list []api.Ins, at int) []int {
	var to []int
	if !endsWay(list[at].Op) {
		to = append(to, at+1)
	}
	if isJump(list[at].Op) {
		to = append(to, int(list[at].Arg))
	}
	return to
}

// goOn brings a picture to an instruction, and tells whether its stack fits there.
func (w *walk) goOn(to int, p picture) bool {
	if !w.reached[to] {
		w.pictures[to], w.reached[to], w.due[to] = p, true, true
		return true
	}
	there := &w.pictures[to]
	if there.stack != p.stack {
		return false
	}
	was := there.locals
	for i, kind := range p.locals {
		if there.locals[i] != kind {
			there.locals[i] = api.WordNone
		}
	}
	if there.locals != was {
		w.due[to] = true
	}
	return true
}

// play does to a picture what an instruction does to stack and locals; it tells whether it can.
func (w *walk) play(p *picture, ins api.Ins) bool {
	row := w.table[ins.Op]
	var some [2]api.WordKind // what x and y were
	for i := len(row.pops) - 1; i >= 0; i-- {
		if !w.pop(p, row.pops[i], ins.Arg, &some) {
			return false
		}
	}
	for _, letter := range []byte(row.pushes) {
		if !p.push(w.pushed(p, letter, ins.Arg, some)) {
			return false
		}
	}
	return true
}

// pop takes off what a letter stands for, and tells whether that is there.
func (w *walk) pop(p *picture, letter byte, arg int64, some *[2]api.WordKind) bool {
	if letter == ofHand {
		var want [api.MaxDeep]api.WordKind
		copy(want[:], results(w.code, w.hand))
		return p.stack == want
	}
	if p.deep == 0 {
		return false
	}
	p.deep--
	top := p.stack[p.deep]
	p.stack[p.deep] = api.WordNone
	switch letter {
	case 'x', 'y':
		some[letter-'x'] = top
		return true
	case ofLocal:
		p.locals[arg] = top
		return true
	}
	return top == w.kind(letter, arg)
}

// pushed is the kind of what a letter stands for; WordNone, if it is not there.
func (w *walk) pushed(p *picture, letter byte, arg int64, some [2]api.WordKind) api.WordKind {
	switch letter {
	case 'x', 'y':
		return some[letter-'x']
	case ofLocal:
		return p.locals[arg]
	case ofDepth:
		if int(arg) >= p.deep {
			return api.WordNone
		}
		return p.stack[p.deep-1-int(arg)]
	}
	return w.kind(letter, arg)
}

// kind is what a letter stands for that hangs on no stack.
func (w *walk) kind(letter byte, arg int64) api.WordKind {
	switch letter {
	case 'i':
		return api.WordInt
	case 'r':
		return api.WordReal
	case 'b':
		return api.WordBool
	case ofState:
		return w.code.State[arg]
	case ofAgg:
		return w.code.Agg[arg]
	case ofCtl:
		return w.code.Ctl[arg]
	}
	return api.WordNone
}

// push lays a kind on the stack, and tells whether there is one, and room for it.
func (p *picture) push(kind api.WordKind) bool {
	if kind == api.WordNone || p.deep == api.MaxDeep {
		return false
	}
	p.stack[p.deep] = kind
	p.deep++
	return true
}
