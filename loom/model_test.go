package loom_test

import (
	"math"
	"math/big"
	"regexp"
	"slices"
	"strings"

	"sluice/api"
)

// model is a second reading of the chapter: kinds are letters, stacks and locals are texts, numbers are of any size.
type model struct {
	rows []row
	c    api.Code
}

const letters = "-irbt"

func letterOf(k api.WordKind) string {
	if k < 0 || int(k) >= len(letters) {
		return "?"
	}
	return letters[k : k+1]
}

func lettersOf(kinds ...api.WordKind) string {
	text := ""
	for _, k := range kinds {
		text += letterOf(k)
	}
	return text
}

var (
	stateForm = regexp.MustCompile(`^[irb]*(tttttt)?[irb]*-*$`)
	aggForm   = regexp.MustCompile(`^[-irb]*(tttttt)?[-irb]*$`)
	ctlForm   = regexp.MustCompile(`^[-irb]*$`)
	sentForm  = regexp.MustCompile(`^[irb][-irb]$`)
)

// head is P11.1's first half.
func (m model) head() bool {
	state := lettersOf(m.c.State[:]...)
	kept := strings.Index(state+"-", "-")
	forms := stateForm.MatchString(state) && aggForm.MatchString(lettersOf(m.c.Agg[:]...)) && ctlForm.MatchString(lettersOf(m.c.Ctl[:]...)) && sentForm.MatchString(lettersOf(m.c.MsgA, m.c.MsgB))
	if !forms || kept != m.c.Words || kept == 0 {
		return false
	}
	s := m.c.Sink
	inA, okA := m.drain(s.A, s.MonA, m.c.MsgA)
	inB, okB := m.drain(s.B, s.MonB, m.c.MsgB)
	for word := range inA {
		if inB[word] {
			return false
		}
	}
	return okA && okB
}

// drain tells the words that a monoid takes, and whether it may.
func (m model) drain(at int, mon api.Monoid, kind api.WordKind) (map[int]bool, bool) {
	into := map[int]bool{}
	state := lettersOf(m.c.State[:]...)[:m.c.Words]
	switch {
	case mon == api.MonNone:
		return into, at == 0
	case mon < 0 || mon > 9 || at < 0 || at >= m.c.Words || kind == api.WordNone:
		return into, false
	case mon == api.MonTally:
		for i := range 6 {
			into[at+i] = true
		}
		return into, strings.HasPrefix(state[at:], "tttttt") && kind == api.WordReal
	}
	into[at] = true
	return into, state[at] != 't'
}

// kindOf is the letter of the word that an instruction names.
func (m model) kindOf(o int, arg int64) string {
	switch o {
	case api.OpState, api.OpToState:
		return letterOf(m.c.State[arg])
	case api.OpAgg, api.OpToAgg:
		return letterOf(m.c.Agg[arg])
	}
	return letterOf(m.c.Ctl[arg])
}

// argument tells whether an instruction may have its Arg.
func (m model) argument(hand int, x api.Ins) bool {
	upTo := func(n int64) bool { return x.Arg >= 0 && x.Arg <= n }
	word := func(n int64) bool { return upTo(n) && strings.Contains("irb", m.kindOf(x.Op, x.Arg)) }
	first := func(kinds [8]api.WordKind) bool {
		return upTo(7) && int64(strings.Index(lettersOf(kinds[:]...), "t")) == x.Arg
	}
	switch m.rows[x.Op].arg {
	case "":
		return x.Arg == 0
	case "n: any":
		return true
	case "the bits of a float32 that is no NaN":
		return upTo(math.MaxUint32) && !math.IsNaN(float64(math.Float32frombits(uint32(x.Arg))))
	case "0 or 1":
		return upTo(1)
	case "0 to MaxDeep - 1":
		return upTo(31)
	case "local 0 to 7":
		return upTo(7)
	case "word":
		return word(7)
	case "word 0 to 3":
		return word(3)
	case "0 to 63":
		return upTo(63)
	case "where":
		return upTo(int64(len(m.c.Hands[hand]) - 1))
	}
	if x.Op == api.OpAggTally || x.Op == api.OpAggTotal {
		return first(m.c.Agg)
	}
	return first(m.c.State)
}

// check is P11.1 and P11.2.
func (m model) check() (ok bool, hand, at int) {
	if !m.head() {
		return false, -1, 0
	}
	for hand, list := range m.c.Hands {
		if len(list) == 0 {
			return false, hand, 0
		}
		if len(list) > 512 {
			return false, hand, 512
		}
		for at, x := range list {
			if x.Op < 0 || x.Op > 68 || !m.rows[x.Op].hands[hand] || !m.argument(hand, x) {
				return false, hand, at
			}
		}
		if at, ok := m.walk(hand); !ok {
			return false, hand, at
		}
	}
	return true, 0, 0
}

// look is what goes with an instruction.
type look struct{ stack, locals string }

func (m model) results(hand int) string {
	switch hand {
	case api.HandScatter:
		return strings.TrimSuffix(lettersOf(m.c.MsgA, m.c.MsgB), "-") + "b"
	case api.HandApply, api.HandTurn:
		return "b"
	}
	return ""
}

// walk is P11.2.
func (m model) walk(hand int) (int, bool) {
	list := m.c.Hands[hand]
	with := map[int]look{0: {"", "--------"}}
	due := []int{0}
	for len(due) > 0 {
		at := slices.Min(due)
		due = slices.DeleteFunc(due, func(i int) bool { return i == at })
		if at == len(list) {
			return at, false
		}
		behind, ok := m.step(hand, list[at], with[at])
		if !ok {
			return at, false
		}
		for _, to := range m.next(list[at], at) {
			was, reached := with[to]
			switch {
			case !reached:
				with[to] = behind
				due = append(due, to)
			case was.stack != behind.stack:
				return at, false
			default:
				met := []byte(was.locals)
				for i := range met {
					if met[i] != behind.locals[i] {
						met[i] = '-'
					}
				}
				if string(met) != was.locals {
					with[to] = look{was.stack, string(met)}
					due = append(due, to)
				}
			}
		}
	}
	return 0, true
}

func (m model) next(x api.Ins, at int) []int {
	switch x.Op {
	case api.OpHalt:
		return nil
	case api.OpJump:
		return []int{int(x.Arg)}
	case api.OpJumpIf, api.OpJumpUnless:
		return []int{at + 1, int(x.Arg)}
	}
	return []int{at + 1}
}

// step is what an instruction does to what goes with it.
func (m model) step(hand int, x api.Ins, l look) (look, bool) {
	r := m.rows[x.Op]
	if x.Op == api.OpHalt {
		return l, l.stack == m.results(hand)
	}
	if len(l.stack) < len(r.pops) {
		return l, false
	}
	off := l.stack[len(l.stack)-len(r.pops):]
	l.stack = strings.TrimSuffix(l.stack, off)
	for i, word := range r.pops {
		if word == "its kind" && off[i:] != m.kindOf(x.Op, x.Arg) || len(word) > 1 && word != "its kind" && off[i] != word[0] {
			return l, false
		}
	}
	switch x.Op {
	case api.OpDup:
		l.stack += off + off
	case api.OpSwap:
		l.stack += off[1:] + off[:1]
	case api.OpPick:
		if int(x.Arg) >= len(l.stack) {
			return l, false
		}
		l.stack += l.stack[len(l.stack)-1-int(x.Arg):][:1]
	case api.OpGet:
		if l.locals[x.Arg] == '-' {
			return l, false
		}
		l.stack += l.locals[x.Arg:][:1]
	case api.OpSet:
		l.locals = l.locals[:x.Arg] + off + l.locals[x.Arg+1:]
	default:
		for _, word := range r.pushes {
			if word == "its kind" {
				word = m.kindOf(x.Op, x.Arg)
			}
			l.stack += word[:1]
		}
	}
	return l, len(l.stack) <= 32
}

// value is a word with its kind.
type value struct {
	kind byte
	n    *big.Int // an int's number
	bits uint32   // a real's
	yes  bool     // a bool's
}

func whole(n int64) value { return value{kind: 'i', n: big.NewInt(n)} }

func (v value) word() uint64 {
	switch v.kind {
	case 'i':
		return uint64(v.n.Int64())
	case 'r':
		return uint64(v.bits)
	}
	if v.yes {
		return 1
	}
	return 0
}

// read is a word by its kind.
func read(kind string, w uint64) (value, api.Errno) {
	switch kind {
	case "i":
		return whole(int64(w)), api.OK
	case "r":
		return checkedReal(uint32(w % (1 << 32)))
	}
	return value{kind: 'b', yes: w != 0}, api.OK
}

func checkedReal(bits uint32) (value, api.Errno) {
	if bits&0x7fffffff > 0x7f800000 {
		return value{}, api.ErrTrapReal
	}
	return value{kind: 'r', bits: bits}, api.OK
}

// desk is a run of the model.
type desk struct {
	model
	f      api.Frame
	stack  []value
	locals [8]value
	at     int
}

// run is P11.3 of a code that is right.
func (m model) run(hand int, f api.Frame, fuel int) (api.Effect, int, api.Errno) {
	d := &desk{model: m, f: f}
	if hand == api.HandStart {
		d.f.State = api.State{}
	}
	for steps := 0; ; {
		if steps == fuel {
			return api.Effect{}, fuel, api.ErrFuel
		}
		steps++
		x := m.c.Hands[hand][d.at]
		if x.Op == api.OpHalt {
			return d.effect(hand), steps, api.OK
		}
		d.at++
		if err := d.do(x); err != api.OK {
			return api.Effect{}, steps, err
		}
	}
}

func (d *desk) effect(hand int) api.Effect {
	var words []uint64
	for _, v := range d.stack {
		words = append(words, v.word())
	}
	var x api.Effect
	switch hand {
	case api.HandScatter:
		x.A, x.Flag = words[0], words[len(words)-1] == 1
		if len(words) == 3 {
			x.B = words[1]
		}
	case api.HandFold:
		x.Agg = d.f.Agg
	case api.HandTurn:
		x.Ctl, x.Flag = d.f.Ctl, words[0] == 1
	default:
		for i := range d.c.Words {
			x.State[i] = d.f.State[i]
		}
		x.Flag = len(words) == 1 && words[0] == 1
	}
	return x
}

func (d *desk) push(v value, err api.Errno) api.Errno {
	if err == api.OK {
		d.stack = append(d.stack, v)
	}
	return err
}

// do does an instruction that is no halt.
func (d *desk) do(x api.Ins) api.Errno {
	pops := len(d.rows[x.Op].pops)
	off := slices.Clone(d.stack[len(d.stack)-pops:])
	d.stack = d.stack[:len(d.stack)-pops]
	unsigned := func(n uint64) (value, api.Errno) {
		return whole(int64(min(n, math.MaxInt64))), api.OK
	}
	switch x.Op {
	case api.OpInt:
		return d.push(whole(x.Arg), api.OK)
	case api.OpReal:
		return d.push(read("r", uint64(x.Arg)))
	case api.OpBool:
		return d.push(read("b", uint64(x.Arg)))
	case api.OpDup:
		d.stack = append(d.stack, off[0], off[0])
	case api.OpDrop:
	case api.OpSwap:
		d.stack = append(d.stack, off[1], off[0])
	case api.OpPick:
		return d.push(d.stack[len(d.stack)-1-int(x.Arg)], api.OK)
	case api.OpGet:
		return d.push(d.locals[x.Arg], api.OK)
	case api.OpSet:
		d.locals[x.Arg] = off[0]
	case api.OpState:
		return d.push(read(d.kindOf(x.Op, x.Arg), d.f.State[x.Arg]))
	case api.OpToState:
		d.f.State[x.Arg] = off[0].word()
	case api.OpAgg:
		return d.push(read(d.kindOf(x.Op, x.Arg), d.f.Agg[x.Arg]))
	case api.OpToAgg:
		d.f.Agg[x.Arg] = off[0].word()
	case api.OpCtl:
		return d.push(read(d.kindOf(x.Op, x.Arg), d.f.Ctl[x.Arg]))
	case api.OpToCtl:
		d.f.Ctl[x.Arg] = off[0].word()
	case api.OpVertex:
		return d.push(unsigned(uint64(d.f.Vertex)))
	case api.OpOutDeg:
		return d.push(unsigned(d.f.Degrees.Out))
	case api.OpInDeg:
		return d.push(unsigned(d.f.Degrees.In))
	case api.OpSrc:
		return d.push(unsigned(uint64(d.f.Edge.Src)))
	case api.OpDst:
		return d.push(unsigned(uint64(d.f.Edge.Dst)))
	case api.OpWeight:
		return d.push(whole(int64(int32(d.f.Edge.W))), api.OK)
	case api.OpRealWeight:
		return d.push(read("r", uint64(d.f.Edge.W)))
	case api.OpBack:
		return d.push(value{kind: 'b', yes: d.f.Back}, api.OK)
	case api.OpChanged:
		return d.push(unsigned(d.f.Changed))
	case api.OpRound:
		return d.push(whole(int64(d.f.Round)), api.OK)
	case api.OpTally:
		put(d.f.State[x.Arg:], off[0].bits)
	case api.OpAggTally:
		put(d.f.Agg[x.Arg:], off[0].bits)
	case api.OpTotal:
		return d.push(rounded(d.f.State[x.Arg:]))
	case api.OpAggTotal:
		return d.push(rounded(d.f.Agg[x.Arg:]))
	case api.OpClear:
		for i := range int64(6) {
			d.f.State[x.Arg+i] = 0
		}
	case api.OpJump:
		d.at = int(x.Arg)
	case api.OpJumpIf, api.OpJumpUnless:
		if off[0].yes == (x.Op == api.OpJumpIf) {
			d.at = int(x.Arg)
		}
	default:
		return d.push(reckon(x, off))
	}
	return api.OK
}
