package purse_test

import (
	"fmt"
	"math/rand/v2"
	"strings"
	"testing"

	"sluice/api"
	"sluice/purse"
)

// model is a purse as the document tells it, without a thought for speed: nothing is kept that can be reckoned from what is out.
type model struct {
	words, high, refused, last int
	closed                     bool
	above                      *model
	serial                     int // in above
	held                       []modelHeld
}

type modelHeld struct {
	api.Held
	part bool
}

func (m *model) used() (all int) {
	for _, h := range m.held {
		all += h.Words
	}
	return all
}

func (m *model) parts() (n int) {
	for _, h := range m.held {
		if h.part {
			n++
		}
	}
	return n
}

func (m *model) told() string {
	var list []api.Held
	for _, h := range m.held {
		list = append(list, h.Held)
	}
	return fmt.Sprint(m.words, m.used(), m.words-m.used(), m.high, m.refused, list)
}

// out files what was not refused; the serial, or an error.
func (m *model) out(words int, tag []string, wrong api.Errno, part bool) (int, api.Errno) {
	text := strings.Join(tag, "/")
	switch {
	case m.closed:
		return 0, api.ErrClosed
	case len(text) > 64:
		return 0, api.ErrLong
	case wrong != api.OK:
		return 0, wrong
	case part && m.parts() == 64:
		return 0, api.ErrHeld
	case m.used()+words > m.words:
		m.refused++
		return 0, api.ErrSpent
	}
	m.last++
	m.held = append(m.held, modelHeld{api.Held{Serial: m.last, Tag: text, Words: words}, part})
	m.high = max(m.high, m.used())
	return m.last, api.OK
}

// set gives what has this serial other words; those of what is gone for good are below 0.
func (m *model) set(serial, words int) api.Errno {
	for i := range m.held {
		h := &m.held[i]
		switch {
		case h.Serial != serial:
		case words < 0:
			m.held = append(m.held[:i:i], m.held[i+1:]...)
			return api.OK
		case m.used()-h.Words+words > m.words:
			m.refused++
			return api.ErrSpent
		default:
			h.Words = words
			m.high = max(m.high, m.used())
			return api.OK
		}
	}
	return api.ErrLease
}

func (m *model) close() api.Errno {
	if m.closed {
		return api.ErrClosed
	}
	if len(m.held) > 0 {
		return api.ErrHeld
	}
	m.closed = true
	if m.above != nil {
		m.above.set(m.serial, -1)
	}
	return api.OK
}

// buffer is a lease of whatever elements; its elements are set and told as marks, 0 for a zero one.
type buffer interface {
	Len() int
	Words() int
	Grow(n int) api.Errno
	Give() api.Errno
	set(i int, mark uint8)
	at(i int) uint8
}

type typed[T purse.Plain] struct {
	*purse.Lease[T]
	of   func(mark uint8) T
	mark func(element T) uint8
}

func (b typed[T]) set(i int, mark uint8) { b.Slice()[i] = b.of(mark) }
func (b typed[T]) at(i int) uint8        { return b.mark(b.Slice()[i]) }

// kind of elements: its bytes, and how a lease of them is taken.
type kind struct {
	bytes int
	take  func(p *purse.Purse, n int, tag ...string) (buffer, api.Errno)
}

func kindOf[T purse.Plain](bytes int, of func(mark uint8) T, mark func(element T) uint8) kind {
	return kind{bytes, func(p *purse.Purse, n int, tag ...string) (buffer, api.Errno) {
		l, err := purse.Take[T](p, n, tag...)
		if l == nil {
			return nil, err
		}
		return typed[T]{l, of, mark}, err
	}}
}

func numbers[T uint8 | uint32 | int32 | int64 | uint64 | int](bytes int) kind {
	return kindOf(bytes, func(mark uint8) T { return T(mark) }, func(element T) uint8 { return uint8(element) })
}

var kinds = []kind{
	numbers[uint8](1), numbers[uint32](4), numbers[int32](4), numbers[int64](8), numbers[uint64](8), numbers[int](8),
	kindOf(12, func(m uint8) api.Edge { return api.Edge{Src: 3 * uint32(m), W: uint32(m)} }, func(e api.Edge) uint8 { return uint8(e.Src - 2*e.W) }),
	kindOf(20, func(m uint8) api.Update { return api.Update{To: uint32(m), B: uint64(m)} }, func(u api.Update) uint8 { return uint8(2*u.B) - uint8(u.To) }),
	kindOf(64, func(m uint8) api.State { return api.State{0: uint64(m), 7: uint64(m)} }, func(s api.State) uint8 { return uint8(2*s[7] - s[0]) }),
}

// pair is a purse and its model; tenant a lease and what its elements are.
type pair struct {
	real *purse.Purse
	like *model
}

type tenant struct {
	buffer
	of     *model
	serial int
	bytes  int
	marks  []uint8
	given  bool
}

type world struct {
	r       *rand.Rand
	purses  []pair
	tenants []*tenant
}

func (w *world) tag() []string {
	if w.r.IntN(8) == 0 {
		return []string{strings.Repeat("t", 62+w.r.IntN(2)), strings.Repeat("u", w.r.IntN(3))}
	}
	return []string{"a", "", "bc"}[:w.r.IntN(4)]
}

// length is now and then none that may be.
func (w *world) length() int {
	switch w.r.IntN(20) {
	case 0:
		return -1 - w.r.IntN(9)
	case 1:
		return api.MaxLength + 1 + w.r.IntN(9)
	}
	return w.r.IntN(12)
}

func lengthError(n int) api.Errno {
	if n < 0 || n > api.MaxLength {
		return api.ErrLength
	}
	return api.OK
}

func ceiling(n, bytes int) int { return (n*bytes + 7) / 8 }

func (w *world) take(p pair) (call string, got, want api.Errno) {
	k, n, tag := kinds[w.r.IntN(len(kinds))], w.length(), w.tag()
	b, got := k.take(p.real, n, tag...)
	serial, want := p.like.out(ceiling(n, k.bytes), tag, lengthError(n), false)
	if got == api.OK {
		w.tenants = append(w.tenants, &tenant{b, p.like, serial, k.bytes, make([]uint8, n), false})
	}
	return fmt.Sprint("Take ", n, tag), got, want
}

func (w *world) part(p pair) (call string, got, want api.Errno) {
	words, tag := w.r.IntN(30)-1, w.tag()
	wrong := api.OK
	if words < 0 {
		wrong = api.ErrPurse
	}
	q, got := p.real.Part(words, tag...)
	serial, want := p.like.out(words, tag, wrong, true)
	if got == api.OK {
		w.purses = append(w.purses, pair{q, &model{words: words, above: p.like, serial: serial}})
	}
	return fmt.Sprint("Part ", words, tag), got, want
}

func (w *world) grow(l *tenant) (call string, got, want api.Errno) {
	n := w.length()
	got = l.Grow(n)
	switch {
	case l.given:
		want = api.ErrLease
	case lengthError(n) != api.OK:
		want = api.ErrLength
	default:
		want = l.of.set(l.serial, ceiling(n, l.bytes))
	}
	if want == api.OK {
		l.marks = append(l.marks[:min(n, len(l.marks))], make([]uint8, max(0, n-len(l.marks)))...)
	}
	return fmt.Sprint("Grow ", n), got, want
}

func (w *world) give(l *tenant) (call string, got, want api.Errno) {
	got, want = l.Give(), l.of.set(l.serial, -1)
	l.given, l.marks = true, nil
	return "Give", got, want
}

func (w *world) step() (call string, got, want api.Errno) {
	p := w.purses[w.r.IntN(len(w.purses))]
	if len(w.tenants) == 0 {
		return w.take(p)
	}
	l := w.tenants[w.r.IntN(len(w.tenants))]
	switch w.r.IntN(9) {
	case 0, 1, 2:
		return w.take(p)
	case 3:
		return w.part(p)
	case 4:
		return "Close", p.real.Close(), p.like.close()
	case 5, 6:
		return w.grow(l)
	case 7:
		if n := l.Len(); n > 0 {
			i, mark := w.r.IntN(n), uint8(w.r.IntN(256))
			l.set(i, mark)
			l.marks[i] = mark
		}
	}
	return w.give(l)
}

// P4.12 of every purse, the model's numbers, and every lease's elements.
func (w *world) check(t *testing.T, call string) {
	t.Helper()
	for i, p := range w.purses {
		if got, want := told(p.real), p.like.told(); got != want {
			t.Fatalf("%s: purse %d tells %s, want %s", call, i, got, want)
		}
		sum := 0
		for _, h := range p.real.Held() {
			sum += h.Words
		}
		if u, h := p.real.Used(), p.real.High(); u != sum || u < 0 || u > h || h > p.real.Words() {
			t.Fatalf("%s: purse %d: Used %d, High %d, Held %v", call, i, u, h, p.real.Held())
		}
	}
	for i, l := range w.tenants {
		if l.Len() != len(l.marks) || l.Words() != ceiling(len(l.marks), l.bytes) {
			t.Fatalf("%s: lease %d: %d elements, %d words, want %d", call, i, l.Len(), l.Words(), len(l.marks))
		}
		for j, mark := range l.marks {
			if l.at(j) != mark {
				t.Fatalf("%s: lease %d: element %d is %d, want %d", call, i, j, l.at(j), mark)
			}
		}
	}
}

func TestAsTheModel(t *testing.T) {
	r := dice()
	seen := map[api.Errno]int{}
	for range 150 {
		words := r.IntN(120)
		w := &world{r: r, purses: []pair{{fresh(t, words), &model{words: words}}}}
		for range 120 {
			call, got, want := w.step()
			if got != want {
				t.Fatalf("%s: error %d, want %d", call, got, want)
			}
			seen[got]++
			w.check(t, call)
		}
	}
	for _, e := range []api.Errno{api.OK, api.ErrLong, api.ErrPurse, api.ErrSpent, api.ErrLength, api.ErrLease, api.ErrHeld, api.ErrClosed} {
		if seen[e] < 20 {
			t.Errorf("error %d was met %d times: the dice are loaded", e, seen[e])
		}
	}
}
