package loom

import "sluice/api"

// hands is a set of handlers, a bit each by its number.
type hands uint8

const (
	inStart hands = 1 << iota
	inScatter
	inApply
	inFold
	inTurn
)

const everywhere = inStart | inScatter | inApply | inFold | inTurn

func (h hands) has(hand int) bool { return h>>hand&1 == 1 }

// argument is which numbers an instruction's Arg may be.
type argument int

const (
	noArg    argument = iota
	anyArg            // a whole number
	realArg           // the bits of a float32 that is no NaN
	boolArg           // 0 or 1
	depthArg          // how far below the top of the stack
	localArg          // a local
	stateArg          // a word of the state that is no part of a sum
	aggArg            // likewise of the aggregate
	ctlArg            // a word of the ctl
	stateSum          // the first word of the state's sum
	aggSum            // likewise of the aggregate's
	bitsArg           // by how many bits
	placeArg          // an instruction of the handler
)

// The letters of what an instruction pops and pushes: i, r, b are an int, a real and a bool; x and y any kinds, those that are popped being those that are pushed; the others hang on Arg.
const (
	ofState = 's' // of the kind of the state's word
	ofAgg   = 'a' // likewise the aggregate's
	ofCtl   = 'c' // likewise the ctl's
	ofLocal = 'l' // popped into the local, pushed from it
	ofDepth = 'p' // what stands so far below the top
	ofHand  = 'h' // all that is there, which must be the handler's results
)

// row is what the chapter's table says of an instruction.
type row struct {
	name   string
	arg    argument
	hands  hands
	pops   string // the last one is on top
	pushes string
	do     func(m *machine, arg int64)
}

// table has the rows by Op.
type table [api.OpJumpUnless + 1]row

// newTable is made anew by each call that needs one, and by a woven program once: functions can't lie at package level.
func newTable() *table {
	t := new(table)
	t.layStack()
	t.layWords()
	t.layGiven()
	t.layWhole()
	t.layReal()
	t.layTests()
	t.laySums()
	t.layJumps()
	return t
}

// has tells whether an Op is one of the table.
func (t *table) has(op int) bool { return op >= 0 && op < len(t) }

// named finds the Op of a name.
func (t *table) named(name string) (op int, ok bool) {
	for op := range t {
		if t[op].name == name {
			return op, true
		}
	}
	return 0, false
}

// isJump tells whether an Op may go on elsewhere than at the next instruction.
func isJump(op int) bool { return op >= api.OpJump && op <= api.OpJumpUnless }

// endsWay tells whether an Op never goes on at the next instruction.
func endsWay(op int) bool { return op == api.OpHalt || op == api.OpJump }
