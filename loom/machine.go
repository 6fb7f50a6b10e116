package loom

import (
	"sluice/api"
	"sluice/grain"
	"sluice/tally"
)

// trap is what a run gives up with, by panic: whatever an instruction is in the midst of, nothing behind it is done.
type trap struct{ err api.Errno }

// step is an instruction whose function was looked up.
type step struct {
	do  func(m *machine, arg int64)
	arg int64
}

// machine is one run of a handler that was checked: so words need no kinds beside them, and no place is beyond an array's end.
type machine struct {
	code   *api.Code
	frame  api.Frame // its State, Agg and Ctl are what they have become
	stack  [api.MaxDeep]uint64
	deep   int
	locals [api.MaxLocals]uint64
	next   int // instruction
	steps  int
	halted bool
}

// work makes steps till a halt, a trap, or the want of fuel.
func (m *machine) work(steps []step, fuel int) (err api.Errno) {
	defer func() {
		switch gave := recover().(type) {
		case nil:
		case trap:
			err = gave.err
		default:
			err = api.ErrPanic
		}
	}()
	for !m.halted {
		if m.steps == fuel {
			return api.ErrFuel
		}
		m.steps++
		s := steps[m.next]
		m.next++
		s.do(m, s.arg)
	}
	return api.OK
}

func (m *machine) push(word uint64) {
	m.stack[m.deep] = word
	m.deep++
}

func (m *machine) pop() uint64 {
	m.deep--
	return m.stack[m.deep]
}

func (m *machine) popInt() int64 { return int64(m.pop()) }

func (m *machine) popReal() float32 { return grain.Float(uint32(m.pop())) }

// read pushes a word of the frame, which may be any, as its kind has it.
func (m *machine) read(kind api.WordKind, word uint64) {
	switch kind {
	case api.WordReal:
		word = uint64(uint32(word))
		if grain.Class(uint32(word)) == api.FloatNaN {
			panic(trap{api.ErrTrapReal})
		}
	case api.WordBool:
		word = truth(word != 0)
	}
	m.push(word)
}

// whole pushes an int that was reckoned, unless that went wrong.
func (m *machine) whole(x int64, err api.Errno) {
	switch err {
	case api.ErrBeyond:
		panic(trap{api.ErrTrapInt})
	case api.ErrByZero:
		panic(trap{api.ErrTrapZero})
	}
	m.push(uint64(x))
}

// real pushes a real that was reckoned.
func (m *machine) real(x float32) { m.read(api.WordReal, uint64(grain.Bits(x))) }

// total pushes the exact sum in the first words, rounded.
func (m *machine) total(words []uint64) {
	x, err := tally.Sum(words[:api.TallyWords]).Round(api.RoundEven)
	if err != api.OK {
		panic(trap{api.ErrTrapReal})
	}
	m.real(x)
}

func (m *machine) halt(int64) { m.halted = true }

func (m *machine) constant(n int64) { m.push(uint64(n)) }

func (m *machine) pick(n int64) { m.push(m.stack[m.deep-1-int(n)]) }

func (m *machine) drop(int64) { m.deep-- }

func (m *machine) swap(int64) {
	top := m.stack[m.deep-2 : m.deep]
	top[0], top[1] = top[1], top[0]
}

func (m *machine) jump(n int64) { m.next = int(n) }

// jumpOn jumps if the word on top is that one.
func (m *machine) jumpOn(word uint64, n int64) {
	if m.pop() == word {
		m.jump(n)
	}
}
