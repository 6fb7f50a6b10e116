package lore

import (
	"strings"

	"sluice/api"
)

// reserved has the words that are no names, a blank on both sides of each.
const reserved = " program const param state agg ctl lane both into on start scatter apply fold turn" +
	" let if else while send skip change keep done go clear int real bool tally none" +
	" min max minint maxint add and or nibbles not true false" +
	" vertex outdeg indeg src dst weight realweight back changed round" +
	" abs sqrt total when band bor bxor shl shr "

func isReserved(word string) bool { return strings.Contains(reserved, " "+word+" ") }

// isName tells whether a text is a name, no longer than names may be.
func isName(text string) bool {
	if text == "" || len(text) > api.MaxLoreName || isDigit(text[0]) {
		return false
	}
	for _, c := range []byte(text) {
		if !isInWord(c) {
			return false
		}
	}
	return !isReserved(text)
}

func isDigit(c byte) bool { return c >= '0' && c <= '9' }

func beginsWord(c byte) bool { return c >= 'a' && c <= 'z' || c >= 'A' && c <= 'Z' || c == '_' }

func isInWord(c byte) bool { return beginsWord(c) || isDigit(c) }

// The words of kinds, monoids, handlers and classes of declarations, by their numbers; what a text can't name is empty.
var (
	kindWords   = [...]string{"", "int", "real", "bool", "tally"}
	monoidWords = [...]string{"", "min", "max", "minint", "maxint", "add", "and", "or", "nibbles", "tally"}
	handWords   = [...]string{"start", "scatter", "apply", "fold", "turn"}
	classWords  = [...]string{"", "const", "param", "state", "agg", "ctl", "lane", "both"}
)

// hands is a set of handlers, a bit each by its number.
type hands uint8

const (
	inStart hands = 1 << iota
	inScatter
	inApply
	inFold
	inTurn
)

const everywhere = inStart | inScatter | inApply | inFold | inTurn

func (h hands) has(hand int) bool { return h>>hand&1 == 1 }

// How tightly operations bind: what stands as an operand must bind at least so.
const (
	orLevel = 1 + iota
	andLevel
	notLevel
	testLevel
	sumLevel
	termLevel
	unaryLevel
	leafLevel
)

// meaning is which instruction of loom an operation is, by the kind that all of its operands have; OpHalt is none.
type meaning struct {
	ints   int
	reals  int
	bools  int
	gives  api.WordKind // WordNone: the operands' kind
	turned bool         // the operands are changed about ahead of the instruction
	denied bool         // what the instruction gives is turned into its contrary
}

// by tells the instruction and what comes of it; not ok, if operands of that kind are not taken.
func (m meaning) by(kind api.WordKind) (ins int, gives api.WordKind, ok bool) {
	ins = [...]int{api.WordInt: m.ints, api.WordReal: m.reals, api.WordBool: m.bools, api.WordTally: api.OpHalt}[kind]
	gives = m.gives
	if gives == api.WordNone {
		gives = kind
	}
	return ins, gives, ins != api.OpHalt
}

// operator is an operation that is told by a sign or a word between its operands, or ahead of its only one.
type operator struct {
	sign  string
	level int
	meaning
}

// operators by the node's Op; those from LxAdd on have two operands.
var operators = [...]operator{
	api.LxNeg: {"-", unaryLevel, meaning{ints: api.OpNegI, reals: api.OpNegF}},
	api.LxNot: {"not", notLevel, meaning{bools: api.OpNot}},
	api.LxAdd: {"+", sumLevel, meaning{ints: api.OpAddI, reals: api.OpAddF}},
	api.LxSub: {"-", sumLevel, meaning{ints: api.OpSubI, reals: api.OpSubF}},
	api.LxMul: {"*", termLevel, meaning{ints: api.OpMulI, reals: api.OpMulF}},
	api.LxDiv: {"/", termLevel, meaning{ints: api.OpQuoI, reals: api.OpQuoF}},
	api.LxRem: {"%", termLevel, meaning{ints: api.OpRemI}},
	api.LxEq:  {"==", testLevel, meaning{api.OpEqI, api.OpEqF, api.OpEqB, api.WordBool, false, false}},
	api.LxNe:  {"!=", testLevel, meaning{api.OpEqI, api.OpEqF, api.OpEqB, api.WordBool, false, true}},
	api.LxLt:  {"<", testLevel, meaning{api.OpLtI, api.OpLtF, api.OpHalt, api.WordBool, false, false}},
	api.LxLe:  {"<=", testLevel, meaning{api.OpLeI, api.OpLeF, api.OpHalt, api.WordBool, false, false}},
	api.LxGt:  {">", testLevel, meaning{api.OpLtI, api.OpLtF, api.OpHalt, api.WordBool, true, false}},
	api.LxGe:  {">=", testLevel, meaning{api.OpLeI, api.OpLeF, api.OpHalt, api.WordBool, true, false}},
	api.LxAnd: {"and", andLevel, meaning{bools: api.OpAnd}},
	api.LxOr:  {"or", orLevel, meaning{bools: api.OpOr}},
}

// infix finds the operation of two operands that a sign or a word tells.
func infix(sign string) (op int, ok bool) {
	for op := api.LxAdd; op <= api.LxOr; op++ {
		if operators[op].sign == sign {
			return op, true
		}
	}
	return 0, false
}

// operands tells how many an operator has.
func operands(op int) int {
	if op < api.LxAdd {
		return 1
	}
	return 2
}

// function is an operation that is told by a name, with so many operands in brackets.
type function struct {
	name string
	n    int
	meaning
}

// The functions whose operands are not all reckoned, or whose kinds are not all the same.
const (
	totalName = "total"
	whenName  = "when"
	shlName   = "shl"
	shrName   = "shr"
)

var functions = [...]function{
	{"min", 2, meaning{ints: api.OpMinI, reals: api.OpMinF}},
	{"max", 2, meaning{ints: api.OpMaxI, reals: api.OpMaxF}},
	{"abs", 1, meaning{ints: api.OpAbsI, reals: api.OpAbsF}},
	{"real", 1, meaning{ints: api.OpToReal, gives: api.WordReal}},
	{"int", 1, meaning{reals: api.OpToInt, gives: api.WordInt}},
	{"sqrt", 1, meaning{reals: api.OpSqrtF}},
	{totalName, 1, meaning{}},
	{whenName, 3, meaning{}},
	{"band", 2, meaning{ints: api.OpAndI}},
	{"bor", 2, meaning{ints: api.OpOrI}},
	{"bxor", 2, meaning{ints: api.OpXorI}},
	{shlName, 2, meaning{ints: api.OpShl}},
	{shrName, 2, meaning{ints: api.OpShr}},
}

func functionOf(name string) (f function, ok bool) {
	for _, f := range functions {
		if f.name == name {
			return f, true
		}
	}
	return function{}, false
}

// given is what a handler is told: the instruction of loom, what it pushes, and where it may stand.
type given struct {
	name string
	ins  int
	kind api.WordKind
	in   hands
}

var givens = [...]given{
	{"vertex", api.OpVertex, api.WordInt, inStart | inApply | inFold},
	{"outdeg", api.OpOutDeg, api.WordInt, inStart},
	{"indeg", api.OpInDeg, api.WordInt, inStart},
	{"src", api.OpSrc, api.WordInt, inScatter},
	{"dst", api.OpDst, api.WordInt, inScatter},
	{"weight", api.OpWeight, api.WordInt, inScatter},
	{"realweight", api.OpRealWeight, api.WordReal, inScatter},
	{"back", api.OpBack, api.WordBool, inScatter},
	{"changed", api.OpChanged, api.WordInt, inTurn},
	{"round", api.OpRound, api.WordInt, inTurn},
}

func givenOf(name string) (g given, ok bool) {
	for _, g := range givens {
		if g.name == name {
			return g, true
		}
	}
	return given{}, false
}

// form is what a statement has, and in which handlers it may stand.
type form struct {
	word  string // with which its text begins; of a set and a put that is their name
	in    hands
	named bool
	x     bool
	y     bool // or none
	then  bool
	other bool
}

// forms by the statement's Op.
var forms = [...]form{
	api.LsLet:    {word: "let", in: everywhere, named: true, x: true},
	api.LsSet:    {in: everywhere, named: true, x: true},
	api.LsPut:    {in: inStart | inApply | inFold, named: true, x: true},
	api.LsClear:  {word: "clear", in: inStart | inApply, named: true},
	api.LsIf:     {word: "if", in: everywhere, x: true, then: true, other: true},
	api.LsWhile:  {word: "while", in: everywhere, x: true, then: true},
	api.LsSend:   {word: "send", in: inScatter, x: true, y: true},
	api.LsSkip:   {word: "skip", in: inScatter},
	api.LsChange: {word: "change", in: inApply},
	api.LsKeep:   {word: "keep", in: inApply},
	api.LsDone:   {word: "done", in: inTurn},
	api.LsGo:     {word: "go", in: inTurn},
}

// formOf finds the statement whose text begins with a word.
func formOf(word string) (op int, ok bool) {
	for op, f := range forms {
		if f.word == word && word != "" {
			return op, true
		}
	}
	return 0, false
}
