package lore

import (
	"slices"
	"strconv"
	"strings"

	"sluice/api"
	"sluice/grain"
)

// deep is what a tree that no text could give is refused with, by panic: it is nested more than a text may be.
type deep struct{}

// Print writes a program in its normal form (P17.3).
func Print(l api.Lore) (text string, err api.Errno) {
	if !isProgram(l) {
		return "", api.ErrTree
	}
	defer func() {
		switch recover().(type) {
		case nil:
		case deep:
			text, err = "", api.ErrTree
		default:
			text, err = "", api.ErrPanic
		}
	}()
	p := &printer{}
	p.line("program ", l.Name, ";")
	for _, d := range l.Decls {
		p.declaration(d)
	}
	for hand, steps := range l.Hands {
		if len(steps) > 0 {
			p.line("on ", handWords[hand], " {")
			p.block(steps)
			p.line("}")
		}
	}
	return p.String(), api.OK
}

// printer writes a text.
type printer struct {
	strings.Builder
	blocks int // that are open
	nested int // what the expression is open in
}

func (p *printer) say(words ...string) {
	for _, word := range words {
		p.WriteString(word)
	}
}

// indent begins a line.
func (p *printer) indent() { p.say(strings.Repeat("  ", p.blocks)) }

func (p *printer) line(words ...string) {
	p.indent()
	p.say(words...)
	p.say("\n")
}

// deepen counts what is opened, unless it is one too many.
func deepen(count *int) {
	if *count == mostNested {
		panic(deep{})
	}
	*count++
}

func (p *printer) declaration(d api.LoreDecl) {
	word, kind := classWords[d.Class], kindWords[d.Kind]
	switch d.Class {
	case api.LoreBoth:
		p.line(word, ";")
	case api.LoreConst:
		p.line(word, " ", d.Name, " = ", constantText(d.Kind, d.Word), ";")
	case api.LoreLane:
		p.line(word, " ", d.Name, " ", kind, " ", monoidWords[d.Mon], " into ", d.Into, ";")
	default:
		p.line(word, " ", d.Name, " ", kind, ";")
	}
}

func constantText(kind api.WordKind, word uint64) string {
	switch kind {
	case api.WordInt:
		return strconv.FormatInt(int64(word), 10)
	case api.WordReal:
		return grain.Dec(uint32(word))
	}
	return strconv.FormatBool(word == 1)
}

func (p *printer) block(steps []api.LoreStep) {
	ways := [...]func(p *printer, s api.LoreStep){
		api.LsLet:    (*printer).named,
		api.LsSet:    (*printer).named,
		api.LsPut:    (*printer).named,
		api.LsClear:  (*printer).named,
		api.LsIf:     (*printer).choice,
		api.LsWhile:  (*printer).loop,
		api.LsSend:   (*printer).send,
		api.LsSkip:   (*printer).plain,
		api.LsChange: (*printer).plain,
		api.LsKeep:   (*printer).plain,
		api.LsDone:   (*printer).plain,
		api.LsGo:     (*printer).plain,
	}
	deepen(&p.blocks)
	for _, s := range steps {
		p.indent()
		ways[s.Op](p, s)
		p.say("\n")
	}
	p.blocks--
}

// braced writes a block with its braces, the last of which begins a line.
func (p *printer) braced(steps []api.LoreStep) {
	p.say(" {\n")
	p.block(steps)
	p.indent()
	p.say("}")
}

// named writes a statement with a name, and perhaps an expression.
func (p *printer) named(s api.LoreStep) {
	if word := forms[s.Op].word; word != "" {
		p.say(word, " ")
	}
	p.say(s.Name)
	if s.Op != api.LsClear {
		signs := [...]string{api.LsLet: " = ", api.LsSet: " = ", api.LsPut: " += "}
		p.say(signs[s.Op])
		p.expression(s.X)
	}
	p.say(";")
}

func (p *printer) choice(s api.LoreStep) {
	for {
		p.say("if ")
		p.expression(s.X)
		p.braced(s.Then)
		if len(s.Else) == 0 {
			return
		}
		p.say(" else")
		if len(s.Else) > 1 || s.Else[0].Op != api.LsIf {
			p.braced(s.Else)
			return
		}
		p.say(" ")
		s = s.Else[0]
	}
}

func (p *printer) loop(s api.LoreStep) {
	p.say("while ")
	p.expression(s.X)
	p.braced(s.Then)
}

func (p *printer) send(s api.LoreStep) {
	p.say("send ")
	p.expression(s.X)
	if len(s.Y) > 0 {
		p.say(", ")
		p.expression(s.Y)
	}
	p.say(";")
}

func (p *printer) plain(s api.LoreStep) { p.say(forms[s.Op].word, ";") }

func (p *printer) expression(x api.LoreExpr) {
	p.tree(grown(x, func(int, tree) {}), orLevel)
}

// tree writes an expression that must bind at least as tightly as a level: in brackets, if it does not.
func (p *printer) tree(t tree, least int) {
	if levelOf(t) < least {
		p.brackets(t)
		return
	}
	switch t := t.(type) {
	case *leaf:
		p.leaf(t.LoreNode)
	case *sole:
		p.prefix(t)
	case *pair:
		p.pair(t)
	case *call:
		p.say(t.Name)
		p.brackets(t.args...)
	}
}

// levelOf tells how tightly an expression binds.
func levelOf(t tree) int {
	switch t := t.(type) {
	case *sole:
		return operators[t.Op].level
	case *pair:
		return operators[t.Op].level
	}
	return leafLevel
}

func (p *printer) brackets(list ...tree) {
	deepen(&p.nested)
	p.say("(")
	for i, t := range list {
		if i > 0 {
			p.say(", ")
		}
		p.tree(t, orLevel)
	}
	p.say(")")
	p.nested--
}

func (p *printer) leaf(n api.LoreNode) {
	kinds := [...]api.WordKind{api.LxInt: api.WordInt, api.LxReal: api.WordReal, api.LxBool: api.WordBool}
	if n.Op == api.LxName {
		p.say(n.Name)
		return
	}
	p.say(constantText(kinds[n.Op], n.Word))
}

func (p *printer) prefix(t *sole) {
	deepen(&p.nested)
	p.say(operators[t.Op].sign)
	if t.Op == api.LxNot || t.x.top().Op == api.LxNeg {
		p.say(" ")
	}
	p.tree(t.x, operators[t.Op].level)
	p.nested--
}

// pair writes an operation with all those in its row, of which each is the left operand of the next: there may be more of them than calls can be open.
func (p *printer) pair(t *pair) {
	row := []*pair{t}
	for {
		least := leftLevel(t.Op)
		left, ok := t.x.(*pair)
		if !ok || levelOf(left) < least {
			p.tree(t.x, least)
			break
		}
		t = left
		row = append(row, t)
	}
	for _, t := range slices.Backward(row) {
		o := operators[t.Op]
		p.say(" ", o.sign, " ")
		p.tree(t.y, o.level+1)
	}
}

// leftLevel tells how tightly a left operand must bind: of several operations in a row the first two belong together, but two tests can't stand in a row.
func leftLevel(op int) int {
	if level := operators[op].level; level != testLevel {
		return level
	}
	return testLevel + 1
}
