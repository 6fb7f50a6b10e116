package lore

import (
	"strings"

	"sluice/api"
)

// expression reads one; its nodes come in the order in which they are told.
func (p *parser) expression() api.LoreExpr {
	p.nodes = nil
	p.climb(orLevel)
	return p.nodes
}

func (p *parser) lay(n api.LoreNode) { p.nodes = append(p.nodes, n) }

// climb reads what binds at least as tightly as a level.
func (p *parser) climb(least int) {
	most := p.operand(least) // what binds more tightly than that can't go on here
	for p.now.sort == fixedToken {
		op, ok := infix(p.now.text)
		level := operators[op].level
		if !ok || level < least || level > most {
			return
		}
		p.advance()
		p.climb(level + 1)
		p.lay(api.LoreNode{Op: op, N: 2})
		most = level
		if level == testLevel { // one test is no operand of another
			most--
		}
	}
}

// operand reads what stands ahead of the first sign between two, and tells how tightly such a sign may bind.
func (p *parser) operand(least int) (most int) {
	switch {
	case p.now.is("not") && least <= notLevel:
		p.prefix(api.LxNot)
		return notLevel
	case p.now.is("-"):
		p.prefix(api.LxNeg)
	case p.now.is("("):
		p.brackets(1)
	default:
		p.primary()
	}
	return termLevel
}

// prefix reads a not or a unary -, and its operand.
func (p *parser) prefix(op int) {
	p.deepen(&p.nested)
	p.advance()
	p.climb(operators[op].level)
	p.nested--
	p.lay(api.LoreNode{Op: op, N: 1})
}

// brackets reads a pair of them with so many expressions in it.
func (p *parser) brackets(n int) {
	if p.now.is("(") {
		p.deepen(&p.nested)
	}
	p.expect("(")
	for i := range n {
		if i > 0 {
			p.expect(",")
		}
		p.climb(orLevel)
	}
	p.expect(")")
	p.nested--
}

// primary reads a number, a truth, a name, or a function with its operands.
func (p *parser) primary() {
	t := p.now
	f, isFunction := functionOf(t.text)
	_, isGiven := givenOf(t.text)
	switch {
	case t.sort == intToken:
		p.leaf(api.LoreNode{Op: api.LxInt, Word: t.word})
	case t.sort == realToken:
		p.leaf(api.LoreNode{Op: api.LxReal, Word: t.word})
	case t.is("true") || t.is("false"):
		p.leaf(api.LoreNode{Op: api.LxBool, Word: truth(t.is("true"))})
	case t.sort == nameToken || isGiven:
		p.leaf(api.LoreNode{Op: api.LxName, Name: strings.Clone(t.text)})
	case isFunction:
		p.advance()
		p.brackets(f.n)
		p.lay(api.LoreNode{Op: api.LxCall, N: f.n, Name: f.name})
	default:
		p.refuse(api.ErrGrammar)
	}
}

func (p *parser) leaf(n api.LoreNode) {
	p.lay(n)
	p.advance()
}
