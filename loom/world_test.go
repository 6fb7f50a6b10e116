package loom_test

import (
	"math"
	"math/rand/v2"
	"slices"
	"strings"
	"testing"

	"sluice/api"
	"sluice/loom"
)

// writer makes up handlers that are mostly right, with jumps to and fro.
type writer struct {
	model
	roll    *rand.Rand
	hand    int
	list    []api.Ins
	looks   []look
	open    map[int]look // jumps that go to where nothing stands yet
	goal    int
	forward bool // no jumps back
}

// oddHead is any code's, without handlers.
func oddHead(roll *rand.Rand) api.Code {
	kind := func(from int) api.WordKind { return api.WordKind(from + roll.IntN(4-from)) }
	c := api.Code{Words: 1 + roll.IntN(8), MsgA: kind(1), MsgB: kind(0), Both: roll.IntN(2) == 0}
	for i := range c.Words {
		c.State[i] = kind(1)
	}
	for i := range c.Agg {
		c.Agg[i] = kind(0)
	}
	for i := range c.Ctl {
		c.Ctl[i] = kind(0)
	}
	lay := func(kinds []api.WordKind) {
		if len(kinds) >= 6 && roll.IntN(3) > 0 {
			at := roll.IntN(len(kinds) - 5)
			for i := range 6 {
				kinds[at+i] = sum
			}
		}
	}
	lay(c.State[:c.Words])
	lay(c.Agg[:])
	for range 20 {
		m := model{c: c}
		m.c.Sink = api.Sink{A: roll.IntN(8), MonA: api.Monoid(roll.IntN(10)), B: roll.IntN(8), MonB: api.Monoid(roll.IntN(10))}
		if roll.IntN(2) == 0 {
			m.c.Sink.B, m.c.Sink.MonB = 0, 0
		}
		if m.head() {
			return m.c
		}
	}
	return c
}

// oddCode is any code with handlers of about so many instructions.
func oddCode(roll *rand.Rand, all []row, long int, forward bool) api.Code {
	c := oddHead(roll)
	for hand := range c.Hands {
		w := &writer{model: model{all, c}, roll: roll, hand: hand, open: map[int]look{}, goal: roll.IntN(long), forward: forward}
		c.Hands[hand] = w.write()
	}
	return c
}

func (w *writer) write() []api.Ins {
	now := look{"", "--------"}
	for len(w.list) < w.goal {
		x, behind, ok := w.choose(now)
		if !ok {
			break
		}
		w.lay(x, now)
		now = w.meet(behind)
		if x.Op == api.OpJump {
			to, some := w.oneOpen()
			if !some {
				break
			}
			now = w.open[to]
			w.close(to)
		}
	}
	if n := len(w.list); n == 0 || w.list[n-1].Op != api.OpJump {
		w.finish(now)
	}
	for {
		to, some := w.oneOpen()
		if !some {
			return w.list
		}
		now := w.open[to]
		w.close(to)
		w.finish(now)
	}
}

func (w *writer) oneOpen() (int, bool) {
	least := math.MaxInt
	for at := range w.open {
		least = min(least, at)
	}
	return least, len(w.open) > 0
}

// close lets a jump go to what comes next.
func (w *writer) close(at int) {
	w.list[at].Arg = int64(len(w.list))
	delete(w.open, at)
}

// meet lets jumps go here whose stacks are the same.
func (w *writer) meet(now look) look {
	for at := range len(w.list) {
		other, is := w.open[at]
		if is && other.stack == now.stack && w.roll.IntN(2) == 0 {
			w.close(at)
			met := []byte(now.locals)
			for i := range met {
				if met[i] != other.locals[i] {
					met[i] = '-'
				}
			}
			now.locals = string(met)
		}
	}
	return now
}

func (w *writer) lay(x api.Ins, now look) {
	w.list, w.looks = append(w.list, x), append(w.looks, now)
	if x.Op < api.OpJump || x.Arg >= 0 {
		return
	}
	behind := now
	if x.Op != api.OpJump {
		behind.stack = behind.stack[:len(behind.stack)-1]
	}
	w.open[len(w.list)-1] = behind
}

// finish brings the stack to the results, and halts.
func (w *writer) finish(now look) {
	want := w.results(w.hand)
	for !strings.HasPrefix(want, now.stack) {
		w.lay(op(api.OpDrop), now)
		now.stack = now.stack[:len(now.stack)-1]
	}
	for _, letter := range want[len(now.stack):] {
		w.lay(w.constant(string(letter)), now)
	}
	w.lay(halt, now)
}

func (w *writer) constant(letter string) api.Ins {
	switch letter {
	case "i":
		return op(api.OpInt, int64(oddWord(w.roll)))
	case "r":
		return op(api.OpReal, int64(realBits[w.roll.IntN(len(realBits))]))
	}
	return op(api.OpBool, int64(w.roll.IntN(2)))
}

// choose finds an instruction that fits here.
func (w *writer) choose(now look) (api.Ins, look, bool) {
	for range 200 {
		x := op(w.roll.IntN(69))
		if x.Op == api.OpHalt || !w.rows[x.Op].hands[w.hand] {
			continue
		}
		switch w.rows[x.Op].arg {
		case "":
		case "where":
			x.Arg = w.where(x.Op, now)
		case "n: any", "the bits of a float32 that is no NaN", "0 or 1":
			x = w.constant(w.rows[x.Op].pushes[0][:1])
		default:
			x.Arg = int64(w.roll.IntN(8))
			if w.rows[x.Op].arg == "0 to 63" {
				x.Arg = []int64{0, 0, 1, 31, 32, 63}[w.roll.IntN(6)]
			}
		}
		if x.Op < api.OpJump && !w.argument(w.hand, x) {
			continue
		}
		if x.Op == api.OpJump && w.roll.IntN(3) > 0 || w.rows[x.Op].pops == nil && len(now.stack) > 6 && w.roll.IntN(3) > 0 {
			continue
		}
		if behind, ok := w.step(w.hand, x, now); ok {
			return x, behind, true
		}
	}
	return api.Ins{}, now, false
}

// where is an instruction that a jump can go to, or -1: one that is still to come.
func (w *writer) where(o int, now look) int64 {
	stack := now.stack
	if o != api.OpJump && stack != "" {
		stack = stack[:len(stack)-1]
	}
	if w.forward || w.roll.IntN(3) > 0 {
		return -1
	}
	var fit []int
	for at, l := range w.looks {
		if l.stack == stack {
			fit = append(fit, at)
		}
	}
	if len(fit) == 0 {
		return -1
	}
	return int64(fit[w.roll.IntN(len(fit))])
}

// spoil changes something of a code.
func spoil(roll *rand.Rand, c api.Code) api.Code {
	kind := func() api.WordKind { return api.WordKind(roll.IntN(7) - 1) }
	switch roll.IntN(12) {
	case 0:
		c.Words = roll.IntN(11) - 1
	case 1:
		c.State[roll.IntN(8)] = kind()
	case 2:
		c.Agg[roll.IntN(8)] = kind()
	case 3:
		c.Ctl[roll.IntN(4)] = kind()
	case 4:
		c.MsgA = kind()
	case 5:
		c.MsgB = kind()
	case 6:
		c.Sink.A, c.Sink.MonA = roll.IntN(10)-1, api.Monoid(roll.IntN(12)-1)
	case 7:
		c.Sink.B, c.Sink.MonB = roll.IntN(10)-1, api.Monoid(roll.IntN(12)-1)
	default:
		hand := roll.IntN(5)
		list := slices.Clone(c.Hands[hand])
		at := roll.IntN(len(list) + 1)
		some := op(roll.IntN(71)-1, int64(roll.IntN(12)-1))
		switch {
		case roll.IntN(3) == 0 || at == len(list):
			list = slices.Insert(list, at, some)
		case roll.IntN(2) == 0:
			list = slices.Delete(list, at, at+1)
		case roll.IntN(2) == 0:
			list[at] = some
		default:
			list[at].Arg = int64(roll.IntN(len(list)+3) - 1)
		}
		c.Hands[hand] = list
	}
	return c
}

// P11.1, P11.2: Check tells what a second reading of them tells, of codes that are right and of such as are spoilt.
func TestCheckAgainstModel(t *testing.T) {
	roll, all := dice(1), rows()
	right, wrong := 0, map[int]int{}
	for range 6000 {
		c := oddCode(roll, all, 1+roll.IntN(60), false)
		for range 1 + roll.IntN(4) {
			ok, hand, at := model{all, c}.check()
			want := api.OK
			if ok {
				right++
			} else {
				want = api.ErrCode
				wrong[hand]++
			}
			if e, h, a := loom.Check(c); e != want || h != hand || a != at {
				t.Fatalf("%d, %d, %d, not %d, %d, %d: %+v", e, h, a, want, hand, at, c)
			}
			c = spoil(roll, c)
		}
	}
	if right < 3000 || len(wrong) != 6 {
		t.Errorf("%d right ones, faults in %v", right, wrong)
	}
}

// P11.3, P11.4: Run makes what a second reading of the machine makes, whatever the frame and the fuel.
func TestRunAgainstModel(t *testing.T) {
	roll, all := dice(2), rows()
	ends, used := map[api.Errno]int{}, map[int]bool{}
	for range 6000 {
		c := oddCode(roll, all, 1+roll.IntN(60), false)
		m := model{all, c}
		if ok, _, _ := m.check(); !ok {
			continue
		}
		for hand := range api.Hands {
			for range 3 {
				f, fuel := oddFrame(roll), []int{0, 1, roll.IntN(40), 1000}[roll.IntN(4)]
				x, n, e := m.run(hand, f, fuel)
				gotX, gotN, gotE := loom.Run(c, hand, f, fuel)
				if gotX != x || gotN != n || gotE != e {
					t.Fatalf("hand %d of %v, %+v, fuel %d: %v, %d, %d, not %v, %d, %d", hand, c, f, fuel, gotX, gotN, gotE, x, n, e)
				}
				ends[e]++
			}
			for _, ins := range c.Hands[hand] {
				used[ins.Op] = true
			}
		}
	}
	for _, e := range []api.Errno{api.OK, api.ErrFuel, api.ErrTrapInt, api.ErrTrapZero, api.ErrTrapReal} {
		if ends[e] < 100 {
			t.Errorf("too few ends %d: %v", e, ends)
		}
	}
	if len(ends) != 5 || len(used) != 69 {
		t.Errorf("ends %v, %d instructions", ends, len(used))
	}
}
