package roster

import (
	"slices"
	"strconv"
	"strings"
	"unicode/utf8"

	"sluice/api"
)

// lexer goes over the characters of one line.
type lexer struct {
	line  int // its number
	chars []rune
	at    int
}

// wordKind is what a lexer is asked for.
type wordKind int

const (
	nameWord  wordKind = iota
	closeWord          // the bracket behind a head's name
	headRest           // what may stand behind the bracket
	equalWord          // the sign behind an entry's name
	valueWord
	valueRest // what may stand behind a value
)

// broken tells the fault of a word that is none of its kind.
var broken = [...]api.Errno{
	nameWord:  api.ErrName,
	closeWord: api.ErrHead,
	headRest:  api.ErrHead,
	equalWord: api.ErrEqual,
	valueWord: api.ErrQuote,
	valueRest: api.ErrQuote,
}

const lineEnd rune = -1

// next tells the character that comes; it is not passed.
func (x *lexer) next() rune {
	if x.at == len(x.chars) {
		return lineEnd
	}
	return x.chars[x.at]
}

// pass goes beyond all characters of a kind.
func (x *lexer) pass(kind func(rune) bool) {
	for x.at < len(x.chars) && kind(x.chars[x.at]) {
		x.at++
	}
}

func (x *lexer) take(r rune) bool {
	if x.next() != r {
		return false
	}
	x.at++
	return true
}

func (x *lexer) spot(at int) api.Spot { return api.Spot{Line: x.line, Col: at + 1} }

// atRest tells whether nothing comes that counts.
func (x *lexer) atRest() bool {
	r := x.next()
	return r == lineEnd || r == '#' || r == ';'
}

// word reads the word that must come behind blanks, and tells where it begins.
func (x *lexer) word(kind wordKind) (text string, spot api.Spot) {
	x.pass(isBlank)
	spot = x.spot(x.at)
	switch kind {
	case nameWord:
		if text = x.name(); text == "" || len(text) > api.MaxKeyName {
			goto failure
		}
	case closeWord:
		if !x.take(']') {
			goto failure
		}
	case equalWord:
		if !x.take('=') {
			goto failure
		}
	case valueWord:
		if x.next() != '"' {
			return x.bare(), spot
		}
		value, wrong := x.quoted()
		if wrong >= 0 {
			spot = x.spot(wrong)
			goto failure
		}
		text = value
	case headRest, valueRest:
		if !x.atRest() {
			goto failure
		}
	}
	return text, spot

failure:
	panic(fault{broken[kind], spot})
}

// name reads a name, in small letters; it is empty, if none begins here.
func (x *lexer) name() string {
	start := x.at
	if beginsName(x.next()) {
		x.pass(isInName)
	}
	return small(string(x.chars[start:x.at]))
}

// bare reads a value to the line's end.
func (x *lexer) bare() string {
	end := len(x.chars)
	for end > x.at && isBlank(x.chars[end-1]) {
		end--
	}
	value := string(x.chars[x.at:end])
	x.at = len(x.chars)
	return value
}

// quoted reads a value in quotes; wrong: which character it is broken at, or -1.
func (x *lexer) quoted() (value string, wrong int) {
	end := x.closing()
	if end < 0 {
		return "", x.at
	}
	var text strings.Builder
	for i := x.at + 1; i < end; {
		r, width := x.chars[i], 1
		if r == '\\' {
			if r, width = escape(x.chars[i:end]); width == 0 {
				return "", i
			}
		}
		text.WriteRune(r)
		i += width
	}
	x.at = end + 1
	return text.String(), -1
}

// closing tells where the quote stands that closes the one here, or -1. A backslash takes what is behind it along, be it an escape or none.
func (x *lexer) closing() int {
	for i := x.at + 1; i < len(x.chars); i++ {
		switch x.chars[i] {
		case '"':
			return i
		case '\\':
			i++
		}
	}
	return -1
}

// escape reads the escape that chars begin with: the character it stands for, and how many it takes; none, if it is no escape.
func escape(chars []rune) (r rune, width int) {
	switch chars[1] {
	case '\\', '"':
		return chars[1], 2
	case 'n':
		return '\n', 2
	case 't':
		return '\t', 2
	case 'r':
		return '\r', 2
	case 'u':
		return numbered(chars)
	}
	return 0, 0
}

// numbered reads an escape that tells a character's number.
func numbered(chars []rune) (r rune, width int) {
	const first, most = 3, 6 // the first digit's place, and how many there may be
	end := slices.Index(chars, '}')
	if end <= first || end > first+most || chars[first-1] != '{' {
		return 0, 0
	}
	n, err := strconv.ParseUint(string(chars[first:end]), 16, 32)
	r = rune(n)
	if err != nil || !utf8.ValidRune(r) || !isAllowed(r) {
		return 0, 0
	}
	return r, end + 1
}
