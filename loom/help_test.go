package loom_test

import (
	"math"
	"math/rand/v2"
	"reflect"
	"slices"
	"strconv"
	"strings"
	"testing"

	"sluice/api"
	"sluice/loom"
)

// chapter is the table of the instructions as it stands in doc/11-loom.md: Op, name, Arg, pops, pushes, handlers, what it does.
const chapter = `
| 0 | halt |  | the results |  | all | the end |
| 1 | int | n: any |  | int | all | n |
| 2 | real | the bits of a float32 that is no NaN |  | real | all | that |
| 3 | bool | 0 or 1 |  | bool | all | that |
| 4 | dup |  | x | x x | all | any kind x |
| 5 | drop |  | x |  | all |  |
| 6 | swap |  | x y | y x | all |  |
| 7 | pick | 0 to MaxDeep - 1 |  | x | all | the kind and word that stands n below the top (0: the top itself) |
| 8 | get | local 0 to 7 |  | its kind | all | the local; it must be set on every way here |
| 9 | set | local 0 to 7 | x |  | all | the local is x |
| 10 | state | word |  | its kind | Scatter, Apply, Fold, Start | the state's word |
| 11 | tostate | word | its kind |  | Start, Apply | the word becomes x |
| 12 | agg | word |  | its kind | Apply, Fold, Turn | the aggregate's word |
| 13 | toagg | word | its kind |  | Fold |  |
| 14 | ctl | word 0 to 3 |  | its kind | Scatter, Apply, Fold, Turn |  |
| 15 | toctl | word 0 to 3 | its kind |  | Turn |  |
| 16 | vertex |  |  | int | Start, Apply, Fold | the vertex's number |
| 17 | outdeg |  |  | int | Start | Degrees.Out (above 2^63 - 1: 2^63 - 1) |
| 18 | indeg |  |  | int | Start | likewise In |
| 19 | src |  |  | int | Scatter | the edge's Src |
| 20 | dst |  |  | int | Scatter |  |
| 21 | weight |  |  | int | Scatter | W as an int32 |
| 22 | realweight |  |  | real | Scatter | W as a float32 |
| 23 | back |  |  | bool | Scatter |  |
| 24 | changed |  |  | int | Turn | how many (above 2^63 - 1: 2^63 - 1) |
| 25 | round |  |  | int | Turn | the round |
| 26 | addi |  | int int | int | all | checked |
| 27 | subi |  | int int | int | all | checked |
| 28 | muli |  | int int | int | all | checked |
| 29 | quoi |  | int int | int | all | cut toward 0; by 0: ErrTrapZero |
| 30 | remi |  | int int | int | all | of the sign of the left one; by 0: ErrTrapZero |
| 31 | negi |  | int | int | all | checked |
| 32 | absi |  | int | int | all | checked |
| 33 | mini |  | int int | int | all |  |
| 34 | maxi |  | int int | int | all |  |
| 35 | andi |  | int int | int | all | bit by bit |
| 36 | ori |  | int int | int | all |  |
| 37 | xori |  | int int | int | all |  |
| 38 | shl | 0 to 63 | int | int | all | bits moved up, those beyond let go |
| 39 | shr | 0 to 63 | int | int | all | bits moved down, zeros above |
| 40 | addf |  | real real | real | all |  |
| 41 | subf |  | real real | real | all |  |
| 42 | mulf |  | real real | real | all |  |
| 43 | quof |  | real real | real | all | by 0: as float32 has it |
| 44 | negf |  | real | real | all |  |
| 45 | absf |  | real | real | all |  |
| 46 | minf |  | real real | real | all | the one with the lesser grain.Rank |
| 47 | maxf |  | real real | real | all |  |
| 48 | sqrtf |  | real | real | all | rounded once |
| 49 | eqi |  | int int | bool | all |  |
| 50 | lti |  | int int | bool | all |  |
| 51 | lei |  | int int | bool | all |  |
| 52 | eqf |  | real real | bool | all | 0 and -0 are equal |
| 53 | ltf |  | real real | bool | all |  |
| 54 | lef |  | real real | bool | all |  |
| 55 | eqb |  | bool bool | bool | all |  |
| 56 | and |  | bool bool | bool | all |  |
| 57 | or |  | bool bool | bool | all |  |
| 58 | not |  | bool | bool | all |  |
| 59 | toreal |  | int | real | all | the nearest float32, ties to even |
| 60 | toint |  | real | int | all | cut toward 0; infinite, or beyond int64: ErrTrapInt |
| 61 | tally | first word of the state's tally | real |  | Start, Apply | put to the exact sum (tally.Put: an infinite one adds nothing) |
| 62 | total | likewise |  | real | Start, Scatter, Apply, Fold | the sum by Round(RoundEven); beyond the greatest float32: ErrTrapReal |
| 63 | clear | likewise |  |  | Start, Apply | the six words become 0 |
| 64 | aggtally | first word of the aggregate's tally | real |  | Fold | as tally |
| 65 | aggtotal | likewise |  | real | Apply, Fold, Turn | as total |
| 66 | jump | where |  |  | all | to that instruction |
| 67 | jumpif | where | bool |  | all | if true |
| 68 | jumpunless | where | bool |  | all | if false |
`

// row is a line of the table.
type row struct {
	op           int
	name, arg    string
	pops, pushes []string
	hands        [api.Hands]bool
}

var handNames = []string{"Start", "Scatter", "Apply", "Fold", "Turn"}

// rows reads the table.
func rows() []row {
	var all []row
	for _, line := range strings.Split(strings.TrimSpace(chapter), "\n") {
		cells := strings.Split(line, "|")
		for i := range cells {
			cells[i] = strings.TrimSpace(cells[i])
		}
		r := row{name: cells[2], arg: cells[3], pushes: strings.Fields(cells[5])}
		r.op, _ = strconv.Atoi(cells[1])
		r.pops = strings.Fields(cells[4])
		if strings.HasPrefix(cells[4], "the ") || strings.HasPrefix(cells[4], "its ") {
			r.pops = []string{cells[4]}
		}
		if strings.HasPrefix(cells[5], "its ") {
			r.pushes = []string{cells[5]}
		}
		for hand, name := range handNames {
			r.hands[hand] = cells[6] == "all" || slices.Contains(strings.Split(cells[6], ", "), name)
		}
		all = append(all, r)
	}
	return all
}

// bfs is the chapter's first example.
const bfs = `state int
agg
ctl
message int
sink 0 minint 0 none
start
  vertex
  int 0
  eqi
  jumpunless 6
  int 0
  jump 7
  int 1000000
  tostate 0
  halt
scatter
  state 0
  int 1
  addi
  state 0
  int 1000000
  lti
  halt
apply
  bool 0
  halt
fold
  halt
turn
  bool 1
  halt
`

func op(o int, arg ...int64) api.Ins {
	x := api.Ins{Op: o}
	if len(arg) > 0 {
		x.Arg = arg[0]
	}
	return x
}

var halt = op(api.OpHalt)

// assembled reads instructions.
func assembled(t testing.TB, lines string) []api.Ins {
	t.Helper()
	var list []api.Ins
	for _, line := range strings.Split(lines, ",") {
		words := strings.Fields(line)
		found := false
		for _, r := range rows() {
			if len(words) > 0 && r.name == words[0] {
				x := op(r.op)
				if len(words) > 1 {
					n, err := strconv.ParseInt(words[1], 0, 64)
					if err != nil {
						t.Fatalf("%q", line)
					}
					x.Arg = n
				}
				list, found = append(list, x), true
			}
		}
		if !found {
			t.Fatalf("no instruction: %q", line)
		}
	}
	return list
}

const (
	none  = api.WordNone
	int_  = api.WordInt
	real  = api.WordReal
	bool_ = api.WordBool
	sum   = api.WordTally
)

// constant pushes some word of a kind.
func constant(k api.WordKind) api.Ins {
	return map[api.WordKind]api.Ins{int_: op(api.OpInt, 7), real: op(api.OpReal, 0x3fc00000), bool_: op(api.OpBool, 1)}[k]
}

// plain gives a code the shortest handlers.
func plain(c api.Code) api.Code {
	c.Hands = [api.Hands][]api.Ins{{halt}, {constant(c.MsgA)}, {op(api.OpBool), halt}, {halt}, {op(api.OpBool, 1), halt}}
	if c.MsgB != none {
		c.Hands[1] = append(c.Hands[1], constant(c.MsgB))
	}
	c.Hands[1] = append(c.Hands[1], op(api.OpBool, 1), halt)
	return c
}

// small has one int.
func small() api.Code {
	return plain(api.Code{Words: 1, State: [8]api.WordKind{int_}, MsgA: int_})
}

// mixed has words of all kinds but sums, and some of none between.
func mixed() api.Code {
	return plain(api.Code{
		Words: 5, State: [8]api.WordKind{int_, real, bool_, bool_, int_},
		Agg: [8]api.WordKind{none, int_, real, bool_, none, int_, none, real}, Ctl: [4]api.WordKind{real, none, bool_, int_},
		MsgA: bool_, MsgB: int_, Sink: api.Sink{A: 3, MonA: api.MonOr, B: 0, MonB: api.MonMaxInt}, Both: true,
	})
}

// summed has sums in state and aggregate, at different places.
func summed() api.Code {
	return plain(api.Code{
		Words: 8, State: [8]api.WordKind{int_, sum, sum, sum, sum, sum, sum, real},
		Agg: [8]api.WordKind{bool_, int_, sum, sum, sum, sum, sum, sum}, Ctl: [4]api.WordKind{real},
		MsgA: real, MsgB: real, Sink: api.Sink{A: 1, MonA: api.MonTally, B: 7, MonB: api.MonMax},
	})
}

// kinds has three of them.
func kinds() []api.Code { return []api.Code{small(), mixed(), summed()} }

// with is a code with other instructions in a handler.
func with(c api.Code, hand int, list ...api.Ins) api.Code {
	c.Hands[hand] = list
	return c
}

// taken fails, unless Check takes a code.
func taken(t testing.TB, c api.Code) {
	t.Helper()
	if e, hand, at := loom.Check(c); e != api.OK || hand != 0 || at != 0 {
		t.Fatalf("%d, %d, %d of %v", e, hand, at, c)
	}
}

// refused fails, unless Check tells that fault.
func refused(t testing.TB, what any, c api.Code, hand, at int) {
	t.Helper()
	if e, h, a := loom.Check(c); e != api.ErrCode || h != hand || a != at {
		t.Errorf("%v: %d, %d, %d, not at %d, %d", what, e, h, a, hand, at)
	}
}

func same(a, b api.Code) bool { return reflect.DeepEqual(a, b) }

func dice(seed uint64) *rand.Rand { return rand.New(rand.NewPCG(seed, 11)) }

var wholes = []int64{0, 1, -1, 2, -2, 3, 7, 63, 64, 1 << 24, 1<<24 + 1, 1<<31 - 1, 1 << 31, -1 << 31, 1 << 32, 3037000499, 3037000500, 1<<53 + 1, 1<<62 - 1, 1 << 62, -1 << 62, math.MaxInt64 - 1, math.MaxInt64, math.MinInt64, math.MinInt64 + 1}

// bits of reals: zeros, the least, denormal, normal, the greatest, infinite.
var realBits = []uint32{0, 1 << 31, 1, 1<<31 | 1, 2, 3, 0x007fffff, 0x807fffff, 0x00800000, 0x80800000, 0x00800001, 0x3f800000, 0xbf800000, 0x3f800001, 0x3f7fffff, 0x3fc00000, 0xbfc00000, 0x40000000, 0x40400000, 0x4b800000, 0x4b800001, 0xcb800000, 0x5effffff, 0x5f000000, 0xdf000000, 0xdf000001, 0x33800000, 0x34000000, 0x1a3504f3, 0x7f7fffff, 0xff7fffff, 0x7f000000, 0x7f800000, 0xff800000}

var nans = []uint32{0x7fc00000, 0xffc00000, 0x7f800001, 0xff800001, 0x7fffffff, 0xffffffff}

// oddWord is any word, those that matter rather than others.
func oddWord(roll *rand.Rand) uint64 {
	switch roll.IntN(6) {
	case 0:
		return uint64(wholes[roll.IntN(len(wholes))])
	case 1:
		return uint64(realBits[roll.IntN(len(realBits))])
	case 2:
		return uint64(realBits[roll.IntN(len(realBits))]) | roll.Uint64()<<32
	case 3:
		if roll.IntN(4) == 0 {
			return uint64(nans[roll.IntN(len(nans))]) | roll.Uint64()<<32
		}
		return uint64(roll.IntN(3))
	case 4:
		return uint64(roll.IntN(20)) - 10
	}
	return roll.Uint64()
}

// oddFrame is any frame.
func oddFrame(roll *rand.Rand) api.Frame {
	var f api.Frame
	for i := range f.State {
		f.State[i], f.Agg[i] = oddWord(roll), oddWord(roll)
	}
	for i := range f.Ctl {
		f.Ctl[i] = oddWord(roll)
	}
	f.Vertex, f.Degrees = uint32(oddWord(roll)), api.Degrees{Out: oddWord(roll), In: oddWord(roll)}
	f.Edge = api.Edge{Src: uint32(oddWord(roll)), Dst: uint32(oddWord(roll)), W: uint32(oddWord(roll))}
	f.Back, f.Changed, f.Round = roll.IntN(2) == 0, oddWord(roll), int(oddWord(roll))
	return f
}
