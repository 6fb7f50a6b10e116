package lore

import (
	"iter"
	"math"
	"strconv"
	"strings"

	"sluice/api"
	"sluice/grain"
)

const mostDigits = 19 // of an int

// sort is what a token is.
type sort int

const (
	endToken   sort = iota // the text's end
	wrongToken             // what is none
	nameToken
	intToken
	realToken
	fixedToken // a reserved word or a sign: its text says which
)

// token is a piece of a text.
type token struct {
	sort  sort
	text  string
	word  uint64    // of an int, of a real its bits
	code  api.Errno // of what is none
	place api.LorePlace
}

// is tells whether it is that reserved word or sign.
func (t token) is(text string) bool { return t.sort == fixedToken && t.text == text }

// tokens tells a text's tokens, the last of which is its end or the first that is none.
func tokens(text string) iter.Seq[token] {
	return func(yield func(token) bool) {
		x := &lexer{text: text, line: 1}
		for {
			t := x.token()
			if !yield(t) || t.sort <= wrongToken {
				return
			}
		}
	}
}

// lexer goes over the bytes of a text.
type lexer struct {
	text  string
	at    int
	line  int
	start int // where the line begins
}

// next tells a byte that comes; 0, which no token has, behind the text's end.
func (x *lexer) next(ahead int) byte {
	if x.at+ahead >= len(x.text) {
		return 0
	}
	return x.text[x.at+ahead]
}

// token reads the next one.
func (x *lexer) token() token {
	x.pass()
	t := token{place: api.LorePlace{Line: x.line, Col: x.at - x.start + 1}}
	begin, c := x.at, x.next(0)
	switch {
	case x.at == len(x.text):
		return t
	case beginsWord(c):
		x.word(&t)
	case isDigit(c):
		x.number(&t)
	default:
		x.sign(&t)
	}
	if t.sort != wrongToken {
		t.text = x.text[begin:x.at]
	}
	return t
}

// pass goes beyond blanks and comments.
func (x *lexer) pass() {
	for x.at < len(x.text) {
		switch c := x.next(0); {
		case c == '\n':
			x.at++
			x.line, x.start = x.line+1, x.at
		case c == ' ' || c == '\t' || c == '\r':
			x.at++
		case c == '/' && x.next(1) == '/':
			x.over(func(c byte) bool { return c != '\n' })
		default:
			return
		}
	}
}

// over goes beyond all bytes of a kind.
func (x *lexer) over(kind func(c byte) bool) {
	for x.at < len(x.text) && kind(x.text[x.at]) {
		x.at++
	}
}

func (t *token) refuse(code api.Errno) { t.sort, t.code = wrongToken, code }

func (x *lexer) word(t *token) {
	begin := x.at
	x.over(isInWord)
	switch word := x.text[begin:x.at]; {
	case isReserved(word):
		t.sort = fixedToken
	case len(word) > api.MaxLoreName:
		t.refuse(api.ErrMuch)
	default:
		t.sort = nameToken
	}
}

// number reads an int or a real.
func (x *lexer) number(t *token) {
	begin := x.at
	x.over(isDigit)
	t.sort = intToken
	if x.next(0) == '.' && isDigit(x.next(1)) {
		x.fraction()
		t.sort = realToken
	}
	read := [...]func(string) (uint64, bool){intToken: readInt, realToken: readReal}[t.sort]
	word, ok := read(x.text[begin:x.at])
	if !ok || beginsWord(x.next(0)) {
		t.refuse(api.ErrGlyph)
		return
	}
	t.word = word
}

// fraction goes beyond the point and what is behind it; an e without digits is no part of it.
func (x *lexer) fraction() {
	x.at++
	x.over(isDigit)
	if c := x.next(0); c != 'e' && c != 'E' {
		return
	}
	ahead := 1
	if c := x.next(1); c == '+' || c == '-' {
		ahead = 2
	}
	if isDigit(x.next(ahead)) {
		x.at += ahead
		x.over(isDigit)
	}
}

func readInt(digits string) (uint64, bool) {
	n, err := strconv.ParseUint(digits, 10, 64)
	return n, err == nil && len(digits) <= mostDigits && n <= math.MaxInt64
}

func readReal(digits string) (uint64, bool) {
	bits, err := grain.ReadDec(digits)
	return uint64(bits), err == api.OK && grain.Class(bits) < api.FloatInf
}

// sign reads the longest sign that fits.
func (x *lexer) sign(t *token) {
	c := x.next(0)
	switch {
	case x.next(1) == '=' && strings.IndexByte("=+!<>", c) >= 0:
		x.at += 2
	case strings.IndexByte("{}(),;=+-*/%<>", c) >= 0:
		x.at++
	default:
		t.refuse(api.ErrGlyph)
		return
	}
	t.sort = fixedToken
}
