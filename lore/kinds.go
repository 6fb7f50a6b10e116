package lore

import "sluice/api"

// mostShift is by how many bits a word can be moved.
const mostShift = 63

// expression studies one, node by node; of none it is nil.
func (s *study) expression(x api.LoreExpr) tree {
	return grown(x, func(i int, t tree) {
		at := s.at
		s.at++
		var code api.Errno
		switch t := t.(type) {
		case *leaf:
			summed := i+1 < len(x) && x[i+1].Op == api.LxCall && x[i+1].Name == totalName
			code = s.leaf(&t.node, summed)
		case *sole:
			code = t.reckoned(operators[t.Op].meaning, t.x)
		case *pair:
			code = t.reckoned(operators[t.Op].meaning, t.x, t.y)
		case *call:
			code = t.called()
		}
		if code == api.OK && t.top().depth > api.MaxLoreNest {
			code = api.ErrMuch
		}
		if code != api.OK {
			s.refuse(code, at)
		}
	})
}

// leaf finds out what a leaf is; summed: it is total's operand.
func (s *study) leaf(n *node, summed bool) api.Errno {
	n.kind = [...]api.WordKind{api.LxInt: api.WordInt, api.LxReal: api.WordReal, api.LxBool: api.WordBool, api.LxName: api.WordNone}[n.Op]
	if n.Op != api.LxName {
		return api.OK
	}
	found, ok := s.find(n.Name)
	n.found, n.kind = found, found.kind
	switch {
	case !ok:
		return api.ErrUnknown
	case n.kind == api.WordTally && !summed:
		return api.ErrTyping
	}
	return api.OK
}

// find tells what a name stands for, if it may be read here.
func (s *study) find(name string) (symbol, bool) {
	if g, ok := givenOf(name); ok {
		return symbol{givenName, g.kind, g.ins}, g.in.has(s.hand)
	}
	may := [...]hands{
		api.LoreConst: everywhere,
		api.LoreParam: everywhere,
		api.LoreState: everywhere &^ inTurn,
		api.LoreAgg:   inApply | inFold | inTurn,
		api.LoreCtl:   everywhere &^ inStart,
		letName:       everywhere,
	}
	v := s.names[name] // of what is not there the class is none
	return v, may[v.class].has(s.hand)
}

// reckoned finds out what comes of an operation, whose operands must be of one kind.
func (n *node) reckoned(m meaning, under ...tree) api.Errno {
	kind := under[0].top().kind
	for _, t := range under {
		if t.top().kind != kind {
			return api.ErrTyping
		}
	}
	ins, gives, ok := m.by(kind)
	if !ok {
		return api.ErrTyping
	}
	n.ins, n.kind = ins, gives
	return api.OK
}

// called finds out what comes of a call.
func (c *call) called() api.Errno {
	switch c.Name {
	case totalName:
		return c.totalled()
	case whenName:
		return c.chosen()
	case shlName, shrName:
		if by := c.args[1].top(); by.Op != api.LxInt || by.Word > mostShift {
			return api.ErrTyping
		}
	}
	f, _ := functionOf(c.Name)
	return c.reckoned(f.meaning, c.args...)
}

// totalled: only the name of a tally has its kind.
func (c *call) totalled() api.Errno {
	of := c.args[0].top()
	if of.kind != api.WordTally {
		return api.ErrTyping
	}
	c.kind, c.ins = api.WordReal, api.OpTotal
	if of.found.class == api.LoreAgg {
		c.ins = api.OpAggTotal
	}
	return api.OK
}

func (c *call) chosen() api.Errno {
	if c.args[0].top().kind != api.WordBool || c.args[1].top().kind != c.args[2].top().kind {
		return api.ErrTyping
	}
	c.kind = c.args[1].top().kind
	return api.OK
}
