package lore

import "sluice/api"

// compiled tells a program's code.
func (p *program) compiled() api.Code {
	code := p.code
	for hand := range code.Hands {
		code.Hands[hand] = p.handler(hand)
	}
	return code
}

// coder lays the instructions of one handler. Ahead of each statement, and behind it, the stack is empty.
type coder struct {
	*program
	hand int
	out  []api.Ins
	quit label // the end of the handler, where nothing has happened
}

func (p *program) handler(hand int) []api.Ins {
	c := &coder{program: p, hand: hand}
	c.block(p.hands[hand])
	c.here(&c.quit)
	ends := [api.Hands]func(c *coder){(*coder).halt, (*coder).haltUnsent, (*coder).haltFalse, (*coder).halt, (*coder).haltFalse}
	ends[hand](c)
	return c.out
}

func (c *coder) lay(op int) { c.layArg(op, 0) }

func (c *coder) layArg(op int, arg int64) { c.out = append(c.out, api.Ins{Op: op, Arg: arg}) }

// label is a place that is not known yet, and what is to be done when it is.
type label struct{ mend []func(to int64) }

// jump lays a jump to a label.
func (c *coder) jump(op int, to *label) {
	at := len(c.out)
	c.lay(op)
	to.mend = append(to.mend, func(to int64) { c.out[at].Arg = to })
}

// here says that a label stands for the next instruction.
func (c *coder) here(l *label) {
	for _, mend := range l.mend {
		mend(int64(len(c.out)))
	}
}

func (c *coder) halt() { c.lay(api.OpHalt) }

// haltWith ends a handler whose results are a bool, with what lies below it.
func (c *coder) haltWith(is bool) {
	c.layArg(api.OpBool, int64(truth(is)))
	c.halt()
}

func (c *coder) haltFalse() { c.haltWith(false) }

// haltUnsent ends scatter: words there must be, though they are not sent.
func (c *coder) haltUnsent() {
	zeros := [...]int{api.WordInt: api.OpInt, api.WordReal: api.OpReal, api.WordBool: api.OpBool}
	c.lay(zeros[c.code.MsgA])
	if c.code.MsgB != api.WordNone {
		c.lay(zeros[c.code.MsgB])
	}
	c.haltWith(false)
}

func (c *coder) block(steps []step) {
	ways := [...]func(c *coder, s *step){
		api.LsLet:    (*coder).set,
		api.LsSet:    (*coder).set,
		api.LsPut:    (*coder).put,
		api.LsClear:  (*coder).clear,
		api.LsIf:     (*coder).choose,
		api.LsWhile:  (*coder).loop,
		api.LsSend:   (*coder).send,
		api.LsSkip:   (*coder).leave,
		api.LsChange: (*coder).flag,
		api.LsKeep:   (*coder).leave,
		api.LsDone:   (*coder).flag,
		api.LsGo:     (*coder).leave,
	}
	for i := range steps {
		ways[steps[i].op](c, &steps[i])
	}
}

func (c *coder) set(s *step) {
	c.tree(s.x)
	ops := [...]int{api.LoreState: api.OpToState, api.LoreAgg: api.OpToAgg, api.LoreCtl: api.OpToCtl, letName: api.OpSet}
	c.layArg(ops[s.into.class], int64(s.into.at))
}

func (c *coder) put(s *step) {
	c.tree(s.x)
	op := api.OpTally
	if s.into.class == api.LoreAgg {
		op = api.OpAggTally
	}
	c.layArg(op, int64(s.into.at))
}

func (c *coder) clear(s *step) { c.layArg(api.OpClear, int64(s.into.at)) }

func (c *coder) choose(s *step) {
	var other, end label
	c.tree(s.x)
	c.jump(api.OpJumpUnless, &other)
	c.block(s.then)
	if len(s.other) > 0 {
		c.jump(api.OpJump, &end)
	}
	c.here(&other)
	c.block(s.other)
	c.here(&end)
}

func (c *coder) loop(s *step) {
	var end label
	begin := len(c.out)
	c.tree(s.x)
	c.jump(api.OpJumpUnless, &end)
	c.block(s.then)
	c.layArg(api.OpJump, int64(begin))
	c.here(&end)
}

func (c *coder) send(s *step) {
	c.tree(s.x)
	if s.y != nil {
		c.tree(s.y)
	}
	c.haltWith(true)
}

// leave ends the handler as its end does.
func (c *coder) leave(*step) { c.jump(api.OpJump, &c.quit) }

func (c *coder) flag(*step) { c.haltWith(true) }

// tree lays what pushes an expression's word.
func (c *coder) tree(t tree) {
	switch t := t.(type) {
	case *leaf:
		c.leaf(&t.node)
	case *sole:
		c.tree(t.x)
		c.lay(t.ins)
	case *pair:
		c.pair(t)
	case *call:
		c.call(t)
	}
}

func (c *coder) leaf(n *node) {
	switch v := n.found; {
	case n.Op != api.LxName:
		c.constant(n.kind, n.Word)
	case v.class == api.LoreConst || v.class == api.LoreParam:
		c.constant(n.kind, c.values[v.at])
	case v.class == givenName:
		c.lay(v.at)
	default:
		ops := [...]int{api.LoreState: api.OpState, api.LoreAgg: api.OpAgg, api.LoreCtl: api.OpCtl, letName: api.OpGet}
		c.layArg(ops[v.class], int64(v.at))
	}
}

func (c *coder) constant(kind api.WordKind, word uint64) {
	ops := [...]int{api.WordInt: api.OpInt, api.WordReal: api.OpReal, api.WordBool: api.OpBool}
	c.layArg(ops[kind], int64(word))
}

func (c *coder) pair(t *pair) {
	c.tree(t.x)
	if t.Op == api.LxAnd || t.Op == api.LxOr {
		c.second(t)
		return
	}
	c.tree(t.y)
	if operators[t.Op].turned {
		c.lay(api.OpSwap)
	}
	c.lay(t.ins)
	if operators[t.Op].denied {
		c.lay(api.OpNot)
	}
}

// second lays an and's or an or's second operand, which is gone by if the first decides.
func (c *coder) second(t *pair) {
	var end label
	decided := api.OpJumpUnless
	if t.Op == api.LxOr {
		decided = api.OpJumpIf
	}
	c.lay(api.OpDup)
	c.jump(decided, &end)
	c.lay(api.OpDrop)
	c.tree(t.y)
	c.here(&end)
}

func (c *coder) call(t *call) {
	switch t.Name {
	case whenName:
		var other, end label
		c.tree(t.args[0])
		c.jump(api.OpJumpUnless, &other)
		c.tree(t.args[1])
		c.jump(api.OpJump, &end)
		c.here(&other)
		c.tree(t.args[2])
		c.here(&end)
	case totalName:
		c.layArg(t.ins, int64(t.args[0].top().found.at))
	case shlName, shrName:
		c.tree(t.args[0])
		c.layArg(t.ins, int64(t.args[1].top().Word))
	default:
		for _, arg := range t.args {
			c.tree(arg)
		}
		c.lay(t.ins)
	}
}
