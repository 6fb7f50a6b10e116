package loom

import (
	"slices"
	"strings"

	"sluice/api"
)

// halt is an instruction as it always stands.
var halt = api.Ins{Op: api.OpHalt}

// Slim tells a code that is no longer and does the same (P11.6).
func Slim(c api.Code) (api.Code, api.Errno) {
	t := newTable()
	if !t.takes(&c) {
		return api.Code{}, api.ErrCode
	}
	for hand, list := range c.Hands {
		c.Hands[hand] = t.slim(list)
	}
	return c, api.OK
}

// slim goes over a list till nothing is left to be done: what one pass leaves out may leave more for the next.
func (t *table) slim(list []api.Ins) []api.Ins {
	for {
		next := t.slimmer(shortCut(list))
		if slices.Equal(next, list) {
			return next
		}
		list = next
	}
}

// shortCut lets jumps go straight to where they end, and halt where a halt is all that they find.
func shortCut(list []api.Ins) []api.Ins {
	out := slices.Clone(list)
	for i, ins := range list {
		if !isJump(ins.Op) {
			continue
		}
		to := end(list, int(ins.Arg))
		if list[to] == halt {
			to = nearestHalt(list, i, to)
		}
		out[i].Arg = int64(to)
		if ins.Op == api.OpJump && list[to] == halt {
			out[i] = halt
		}
	}
	return out
}

// end tells where a row of jumps ends; if it goes in a ring, where it was begun.
func end(list []api.Ins, from int) int {
	at := from
	for range list {
		if list[at].Op != api.OpJump {
			return at
		}
		at = int(list[at].Arg)
	}
	return from
}

// nearestHalt tells the first halt behind an instruction: all halts do the same, so those farther off may be spared. A jump that goes on still goes on.
func nearestHalt(list []api.Ins, at, other int) int {
	if i := slices.Index(list[at:], halt); i >= 0 {
		return at + i
	}
	return other
}

// press lays instructions one behind the other, and what they come to beside one another in their place.
type press struct {
	table *table
	out   []api.Ins
	floor int // what lies from there on is always gone through from there on: no jump goes in between
}

// slimmer is one pass: it leaves out what is never reached, and presses the rest.
func (t *table) slimmer(list []api.Ins) []api.Ins {
	p := &press{table: t}
	reached, target := reach(list), targets(list)
	place := make([]int, len(list)) // where an instruction has come to
	for at, ins := range list {
		if target[at] {
			p.floor = len(p.out)
		}
		place[at] = len(p.out)
		switch {
		case !reached[at]:
		case isJump(ins.Op) && int(ins.Arg) == at+1:
			p.skip(ins.Op)
		default:
			p.lay(ins)
		}
	}
	for i, ins := range p.out {
		if isJump(ins.Op) {
			p.out[i].Arg = int64(place[ins.Arg])
		}
	}
	return p.out
}

// targets tells to which instructions some jump goes.
func targets(list []api.Ins) []bool {
	target := make([]bool, len(list))
	for _, ins := range list {
		if isJump(ins.Op) {
			target[ins.Arg] = true
		}
	}
	return target
}

// skip lays what is left of a jump to the next instruction.
func (p *press) skip(op int) {
	if op != api.OpJump {
		p.lay(api.Ins{Op: api.OpDrop})
	}
}

// back tells the last instructions but so many of those that may be touched.
func (p *press) back(n int) (api.Ins, bool) {
	at := len(p.out) - 1 - n
	if at < p.floor {
		return api.Ins{}, false
	}
	return p.out[at], true
}

// shed takes the last ones off.
func (p *press) shed(n int) { p.out = p.out[:len(p.out)-n] }

// lay lays an instruction, or what it comes to with those ahead of it.
func (p *press) lay(ins api.Ins) {
	if isIdle(ins) || p.fold(ins) {
		return
	}
	last, ok := p.back(0)
	switch {
	case ok && p.undoes(last, ins):
		p.shed(1)
	case ok && ins.Op == api.OpJumpIf && last.Op == api.OpNot:
		p.shed(1)
		p.lay(api.Ins{Op: api.OpJumpUnless, Arg: ins.Arg})
	case ok && ins.Op == api.OpJumpUnless && last.Op == api.OpNot:
		p.shed(1)
		p.lay(api.Ins{Op: api.OpJumpIf, Arg: ins.Arg})
	case ok && ins.Op == api.OpJumpIf && last.Op == api.OpBool:
		p.shed(1)
		p.jumpOn(last.Arg == 1, ins.Arg)
	case ok && ins.Op == api.OpJumpUnless && last.Op == api.OpBool:
		p.shed(1)
		p.jumpOn(last.Arg == 0, ins.Arg)
	default:
		p.out = append(p.out, ins)
	}
}

// jumpOn lays a jump whose choice is known.
func (p *press) jumpOn(taken bool, to int64) {
	if taken {
		p.out = append(p.out, api.Ins{Op: api.OpJump, Arg: to})
	}
}

// isIdle tells whether an instruction does nothing.
func isIdle(ins api.Ins) bool {
	return ins.Arg == 0 && (ins.Op == api.OpShl || ins.Op == api.OpShr)
}

// undoes tells whether an instruction leaves all as it was ahead of the last one.
func (p *press) undoes(last, ins api.Ins) bool {
	switch ins.Op {
	case api.OpNot, api.OpNegF, api.OpSwap:
		return last.Op == ins.Op
	case api.OpSet:
		return last == api.Ins{Op: api.OpGet, Arg: ins.Arg}
	case api.OpDrop:
		return p.isQuiet(last)
	}
	return false
}

// isQuiet tells whether an instruction pushes one word more and can't trap.
func (p *press) isQuiet(ins api.Ins) bool {
	switch ins.Op {
	case api.OpReal, api.OpDup:
		return true
	}
	row := p.table[ins.Op]
	return row.pops == "" && len(row.pushes) == 1 && strings.Contains("iblp", row.pushes)
}

// fold lays the constant that an instruction makes of those ahead of it, if it is such a one, and doesn't trap.
func (p *press) fold(ins api.Ins) bool {
	row := p.table[ins.Op]
	if row.pops == "" || strings.Trim(row.pops, "irb") != "" || len(row.pushes) != 1 {
		return false
	}
	list := make([]api.Ins, 0, len(row.pops)+1)
	for i := range row.pops {
		constant, ok := p.back(len(row.pops) - 1 - i)
		if !ok || constant.Op < api.OpInt || constant.Op > api.OpBool {
			return false
		}
		list = append(list, constant)
	}
	m := new(machine)
	list = append(list, ins)
	if m.work(p.table.steps(list), len(list)) != api.ErrFuel {
		return false // it has trapped: there is no halt
	}
	p.shed(len(row.pops))
	p.lay(api.Ins{Op: map[string]int{"i": api.OpInt, "r": api.OpReal, "b": api.OpBool}[row.pushes], Arg: m.popInt()})
	return true
}
