package lore

import (
	"iter"
	"slices"
	"strings"

	"sluice/api"
)

const mostNested = 200 // nestings of an expression, and blocks in one another

// wrong is what a text is refused for, and where: whoever meets it gives up by panic, so that nothing behind it is looked at.
type wrong struct {
	code  api.Errno
	place api.LorePlace
}

// Parse reads a text (P17.2).
func Parse(text string) (l api.Lore, err api.Errno, place api.LorePlace) {
	if len(text) > api.MaxLore {
		return api.Lore{}, api.ErrLong, api.LorePlace{Line: 1, Col: 1}
	}
	for t := range tokens(text) { // what is no token goes ahead of all that the grammar asks
		if t.sort == wrongToken {
			return api.Lore{}, t.code, t.place
		}
	}
	next, stop := iter.Pull(tokens(text))
	defer stop()
	defer func() {
		switch gave := recover().(type) {
		case nil:
		case wrong:
			l, err, place = api.Lore{}, gave.code, gave.place
		default:
			l, err, place = api.Lore{}, api.ErrPanic, api.LorePlace{}
		}
	}()
	p := &parser{next: next}
	p.program()
	return p.lore, api.OK, api.LorePlace{}
}

// parser reads the tokens, one ahead.
type parser struct {
	next   func() (token, bool)
	now    token // the one that comes
	nodes  api.LoreExpr
	nested int // what the expression is open in
	blocks int // those that are open
	stood  [api.Hands]bool
	lore   api.Lore
}

func (p *parser) advance() { p.now, _ = p.next() }

// refuse gives up at the token that comes.
func (p *parser) refuse(code api.Errno) { panic(wrong{code, p.now.place}) }

// take passes that reserved word or sign, if it comes.
func (p *parser) take(text string) bool {
	if !p.now.is(text) {
		return false
	}
	p.advance()
	return true
}

func (p *parser) expect(text string) {
	if !p.take(text) {
		p.refuse(api.ErrGrammar)
	}
}

func (p *parser) name() string {
	if p.now.sort != nameToken {
		p.refuse(api.ErrGrammar)
	}
	name := strings.Clone(p.now.text)
	p.advance()
	return name
}

// among tells which of some words comes; -1, if none does. (An empty one among them is no token.)
func (p *parser) among(words ...string) int {
	if p.now.sort != fixedToken {
		return -1
	}
	return slices.Index(words, p.now.text)
}

// oneOf passes one of some words, and tells which.
func (p *parser) oneOf(words ...string) int {
	at := p.among(words...)
	if at < 0 {
		p.refuse(api.ErrGrammar)
	}
	p.advance()
	return at
}

// deepen counts what the token that comes opens, unless it is one too many.
func (p *parser) deepen(count *int) {
	if *count == mostNested {
		p.refuse(api.ErrMuch)
	}
	*count++
}

func (p *parser) program() {
	p.advance()
	p.expect("program")
	p.lore.Name = p.name()
	p.expect(";")
	for p.declaration() {
	}
	for p.take("on") {
		p.handler()
	}
	if p.now.sort != endToken {
		p.refuse(api.ErrGrammar)
	}
}

// declaration reads one, if one comes.
func (p *parser) declaration() bool {
	rests := [...]func(p *parser, d *api.LoreDecl){
		api.LoreConst: (*parser).constRest,
		api.LoreParam: (*parser).wordRest,
		api.LoreState: (*parser).sumRest,
		api.LoreAgg:   (*parser).sumRest,
		api.LoreCtl:   (*parser).wordRest,
		api.LoreLane:  (*parser).laneRest,
		api.LoreBoth:  func(*parser, *api.LoreDecl) {},
	}
	words := classWords
	class := p.among(words[:]...)
	if class < 0 {
		return false
	}
	p.advance()
	d := api.LoreDecl{Class: class}
	rests[class](p, &d)
	p.expect(";")
	p.lore.Decls = append(p.lore.Decls, d)
	return true
}

func (p *parser) constRest(d *api.LoreDecl) {
	d.Name = p.name()
	p.expect("=")
	negative := p.take("-")
	switch {
	case p.now.sort == intToken:
		d.Kind, d.Word = api.WordInt, p.now.word
		if negative {
			d.Word = -d.Word
		}
	case p.now.sort == realToken:
		d.Kind, d.Word = api.WordReal, p.now.word
		if negative {
			d.Word |= signBit
		}
	case !negative && (p.now.is("true") || p.now.is("false")):
		d.Kind, d.Word = api.WordBool, truth(p.now.is("true"))
	default:
		p.refuse(api.ErrGrammar)
	}
	p.advance()
}

// wordRest is that of what is an int, a real or a bool.
func (p *parser) wordRest(d *api.LoreDecl) {
	d.Name = p.name()
	words := kindWords
	d.Kind = api.WordKind(p.oneOf(words[:api.WordTally]...))
}

// sumRest is that of what may be a tally too.
func (p *parser) sumRest(d *api.LoreDecl) {
	d.Name = p.name()
	words := kindWords
	d.Kind = api.WordKind(p.oneOf(words[:]...))
}

func (p *parser) laneRest(d *api.LoreDecl) {
	p.wordRest(d)
	words := monoidWords
	d.Mon = api.Monoid(p.oneOf(words[:]...))
	p.expect("into")
	d.Into = p.name()
}

func (p *parser) handler() {
	again, words := p.now, handWords
	hand := p.oneOf(words[:]...)
	if p.stood[hand] {
		panic(wrong{api.ErrDoubled, again.place})
	}
	p.stood[hand] = true
	p.lore.Hands[hand] = p.block()
}

func (p *parser) block() []api.LoreStep {
	if p.now.is("{") {
		p.deepen(&p.blocks)
	}
	p.expect("{")
	var steps []api.LoreStep
	for !p.take("}") {
		steps = append(steps, p.step())
	}
	p.blocks--
	return steps
}

func (p *parser) step() api.LoreStep {
	if p.now.sort == nameToken {
		return p.assignment()
	}
	op, ok := formOf(p.now.text)
	if p.now.sort != fixedToken || !ok {
		p.refuse(api.ErrGrammar)
	}
	rests := [...]func(p *parser, s *api.LoreStep){
		api.LsLet:    (*parser).letRest,
		api.LsClear:  (*parser).clearRest,
		api.LsIf:     (*parser).ifRest,
		api.LsWhile:  (*parser).whileRest,
		api.LsSend:   (*parser).sendRest,
		api.LsSkip:   (*parser).noRest,
		api.LsChange: (*parser).noRest,
		api.LsKeep:   (*parser).noRest,
		api.LsDone:   (*parser).noRest,
		api.LsGo:     (*parser).noRest,
	}
	p.advance()
	s := api.LoreStep{Op: op}
	rests[op](p, &s)
	return s
}

// assignment reads a set or a put.
func (p *parser) assignment() api.LoreStep {
	s := api.LoreStep{Op: api.LsSet, Name: p.name()}
	if p.take("+=") {
		s.Op = api.LsPut
	} else {
		p.expect("=")
	}
	s.X = p.expression()
	p.expect(";")
	return s
}

func (p *parser) letRest(s *api.LoreStep) {
	s.Name = p.name()
	p.expect("=")
	s.X = p.expression()
	p.expect(";")
}

func (p *parser) clearRest(s *api.LoreStep) {
	s.Name = p.name()
	p.expect(";")
}

func (p *parser) ifRest(s *api.LoreStep) {
	s.X = p.expression()
	s.Then = p.block()
	switch {
	case !p.take("else"):
	case p.now.is("if"):
		s.Else = []api.LoreStep{p.step()}
	default:
		s.Else = p.block()
	}
}

func (p *parser) whileRest(s *api.LoreStep) {
	s.X = p.expression()
	s.Then = p.block()
}

func (p *parser) sendRest(s *api.LoreStep) {
	s.X = p.expression()
	if p.take(",") {
		s.Y = p.expression()
	}
	p.expect(";")
}

func (p *parser) noRest(*api.LoreStep) { p.expect(";") }
