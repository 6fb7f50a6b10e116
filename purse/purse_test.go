package purse_test

import (
	"fmt"
	"math"
	"math/rand/v2"
	"slices"
	"strings"
	"testing"

	"sluice/api"
	"sluice/purse"
)

// dice fall alike at each run.
func dice() *rand.Rand { return rand.New(rand.NewPCG(7, 8)) }

func fresh(t *testing.T, words int) *purse.Purse {
	t.Helper()
	p, err := purse.New(words)
	if p == nil || err != api.OK {
		t.Fatalf("New(%d): %v, %d", words, p, err)
	}
	return p
}

func part(t *testing.T, p *purse.Purse, words int, tag ...string) *purse.Purse {
	t.Helper()
	q, err := p.Part(words, tag...)
	if q == nil || err != api.OK {
		t.Fatalf("Part(%d, %q): %v, %d", words, tag, q, err)
	}
	return q
}

func take[T purse.Plain](t *testing.T, p *purse.Purse, n int, tag ...string) *purse.Lease[T] {
	t.Helper()
	l, err := purse.Take[T](p, n, tag...)
	if l == nil || err != api.OK {
		t.Fatalf("Take(%d, %q): %v, %d", n, tag, l, err)
	}
	return l
}

func is(t *testing.T, what string, got, want api.Errno) {
	t.Helper()
	if got != want {
		t.Errorf("%s: error %d, want %d", what, got, want)
	}
}

// told is all that a purse tells, in one text.
func told(p *purse.Purse) string {
	return fmt.Sprint(p.Words(), p.Used(), p.Left(), p.High(), p.Refused(), p.Held())
}

func tells(t *testing.T, p *purse.Purse, words, used, high, refused int, held ...api.Held) {
	t.Helper()
	want := fmt.Sprint(words, used, words-used, high, refused, held)
	if got := told(p); got != want {
		t.Errorf("a purse tells %s, want %s", got, want)
	}
}

// refuses holds against its error a call that must change no number of the purse but Refused.
func refuses(t *testing.T, what string, p *purse.Purse, want api.Errno, call func() api.Errno) {
	t.Helper()
	refused := p.Refused()
	if want == api.ErrSpent {
		refused++
	}
	after := fmt.Sprint(p.Words(), p.Used(), p.Left(), p.High(), refused, p.Held())
	is(t, what, call(), want)
	if got := told(p); got != after {
		t.Errorf("%s: behind it the purse tells %s, want %s", what, got, after)
	}
}

// noPart is Part's error; -1, if it came with a purse.
func noPart(p *purse.Purse, words int, tag ...string) func() api.Errno {
	return func() api.Errno {
		q, err := p.Part(words, tag...)
		if q != nil {
			return -1
		}
		return err
	}
}

// noLease is Take's error; -1, if it came with a lease.
func noLease[T purse.Plain](p *purse.Purse, n int, tag ...string) func() api.Errno {
	return func() api.Errno {
		l, err := purse.Take[T](p, n, tag...)
		if l != nil {
			return -1
		}
		return err
	}
}

var (
	badBudgets = []int{-1, math.MinInt, -api.MaxBudget, api.MaxBudget + 1, math.MaxInt}
	badLengths = []int{-1, math.MinInt, -api.MaxLength, api.MaxLength + 1, math.MaxInt, math.MaxInt/8 + 1, math.MinInt/8 - 1}
	longTag    = strings.Repeat("t", 65)
)

// costs holds Cost of a kind of elements against its bytes.
func costs[T purse.Plain](t *testing.T, bytes int) {
	t.Helper()
	for _, n := range []int{0, 1, 2, 3, 4, 5, 6, 7, 8, 9, 15, 16, 17, 1001, api.MaxLength - 1, api.MaxLength} {
		want := n * bytes / 8
		if n*bytes%8 != 0 {
			want++
		}
		if got, err := purse.Cost[T](n); got != want || err != api.OK {
			t.Errorf("%d of %T: %d, %d, want %d", n, *new(T), got, err, want)
		}
	}
	for _, n := range badLengths {
		if got, err := purse.Cost[T](n); got != 0 || err != api.ErrLength {
			t.Errorf("%d of %T: %d, %d", n, *new(T), got, err)
		}
	}
	p := fresh(t, 100)
	l := take[T](t, p, 5)
	want := (5*bytes + 7) / 8
	if l.Words() != want || l.Len() != 5 || len(l.Slice()) != 5 {
		t.Errorf("a lease of 5 %T: %d words, %d elements", *new(T), l.Words(), l.Len())
	}
	tells(t, p, 100, want, want, 0, api.Held{Serial: 1, Words: want})
}

// P4.1, and what a lease of each kind costs (P4.6).
func TestCost(t *testing.T) {
	costs[uint8](t, 1)
	costs[uint32](t, 4)
	costs[int32](t, 4)
	costs[int64](t, 8)
	costs[uint64](t, 8)
	costs[int](t, 8)
	costs[api.Edge](t, 12)
	costs[api.Update](t, 20)
	costs[api.State](t, 64)
}

// P4.2.
func TestNew(t *testing.T) {
	for _, words := range []int{0, 1, 10, api.MaxBudget - 1, api.MaxBudget} {
		tells(t, fresh(t, words), words, 0, 0, 0)
	}
	for _, words := range badBudgets {
		if p, err := purse.New(words); p != nil || err != api.ErrPurse {
			t.Errorf("New(%d): %v, %d", words, p, err)
		}
	}
	p := fresh(t, 5)
	fresh(t, 6)
	take[int](t, p, 1)
	tells(t, fresh(t, 5), 5, 0, 0, 0)
	tells(t, p, 5, 1, 1, 0, api.Held{Serial: 1, Words: 1})
}

// P4.3.
func TestNumbers(t *testing.T) {
	p := fresh(t, 20)
	a := take[int](t, p, 3, "a")
	q := part(t, p, 10, "q")
	tells(t, p, 20, 13, 13, 0, api.Held{Serial: 1, Tag: "a", Words: 3}, api.Held{Serial: 2, Tag: "q", Words: 10})
	is(t, "Give", a.Give(), api.OK)
	tells(t, p, 20, 10, 13, 0, api.Held{Serial: 2, Tag: "q", Words: 10})
	refuses(t, "Take of 11 of 10", p, api.ErrSpent, noLease[int](p, 11))
	refuses(t, "Part of 11 of 10", p, api.ErrSpent, noPart(p, 11))
	b := take[uint8](t, p, 80)
	refuses(t, "Grow", p, api.ErrSpent, func() api.Errno { return b.Grow(81) })
	tells(t, p, 20, 20, 20, 3, api.Held{Serial: 2, Tag: "q", Words: 10}, api.Held{Serial: 3, Words: 10})
	is(t, "Close of q", q.Close(), api.OK)
	is(t, "Give", b.Give(), api.OK)
	is(t, "Close", p.Close(), api.OK)
	tells(t, p, 20, 0, 20, 3) // closed, and it tells
	tells(t, q, 10, 0, 0, 0)
}

// Other errors than ErrSpent are not counted.
func TestRefusedCountsSpentAlone(t *testing.T) {
	p := fresh(t, 4)
	l := take[int](t, p, 1)
	refuses(t, "a long tag", p, api.ErrLong, noLease[int](p, 99, longTag))
	refuses(t, "a length", p, api.ErrLength, noLease[int](p, -1))
	refuses(t, "a long tag", p, api.ErrLong, noPart(p, 99, longTag))
	refuses(t, "a budget", p, api.ErrPurse, noPart(p, -1))
	refuses(t, "Grow", p, api.ErrLength, func() api.Errno { return l.Grow(api.MaxLength + 1) })
	refuses(t, "Close", p, api.ErrHeld, p.Close)
	tells(t, p, 4, 1, 1, 0, api.Held{Serial: 1, Words: 1})
}

// Held is by serial however many are out, and new memory each time.
func TestHeldIsSortedAndNew(t *testing.T) {
	p := fresh(t, 1000)
	r := dice()
	var want []api.Held
	var leases []*purse.Lease[int]
	for i := range 200 {
		tag := strings.Repeat("x", r.IntN(4))
		want = append(want, api.Held{Serial: i + 1, Tag: tag, Words: i % 5})
		leases = append(leases, take[int](t, p, i%5, tag))
	}
	for len(want) > 0 {
		if got := p.Held(); !slices.Equal(got, want) {
			t.Fatalf("Held: %v, want %v", got, want)
		}
		got := p.Held()
		clear(got[:cap(got)])
		i := r.IntN(len(want))
		is(t, "Give", leases[i].Give(), api.OK)
		want, leases = slices.Delete(want, i, i+1), slices.Delete(leases, i, i+1)
	}
	if len(p.Held()) != 0 {
		t.Errorf("Held: %v", p.Held())
	}
}

// P4.4.
func TestPart(t *testing.T) {
	p := fresh(t, 10)
	q := part(t, p, 6, "a", "b")
	tells(t, q, 6, 0, 0, 0)
	tells(t, p, 10, 6, 6, 0, api.Held{Serial: 1, Tag: "a/b", Words: 6})
	l := take[int](t, q, 4, "in q")
	refuses(t, "Take of q", q, api.ErrSpent, noLease[int](q, 3))
	is(t, "Grow", l.Grow(5), api.OK)
	tells(t, q, 6, 5, 5, 1, api.Held{Serial: 1, Tag: "in q", Words: 5}) // serials of its own
	tells(t, p, 10, 6, 6, 0, api.Held{Serial: 1, Tag: "a/b", Words: 6}) // nothing of this is to be seen above
	r := part(t, q, 1)
	tells(t, r, 1, 0, 0, 0)
	tells(t, q, 6, 6, 6, 1, api.Held{Serial: 1, Tag: "in q", Words: 5}, api.Held{Serial: 2, Words: 1})
	part(t, p, 4)
	part(t, p, 0)
	tells(t, p, 10, 10, 10, 0, api.Held{Serial: 1, Tag: "a/b", Words: 6}, api.Held{Serial: 2, Words: 4}, api.Held{Serial: 3})
}

func TestPartErrorsInOrder(t *testing.T) {
	var none *purse.Purse
	is(t, "of nil", noPart(none, -1, longTag)(), api.ErrNil)
	p := fresh(t, 8)
	for _, words := range badBudgets {
		refuses(t, fmt.Sprint("a long tag, and ", words), p, api.ErrLong, noPart(p, words, longTag))
		refuses(t, fmt.Sprint("budget ", words), p, api.ErrPurse, noPart(p, words))
	}
	refuses(t, "a long tag, and one too many", p, api.ErrLong, noPart(p, 9, longTag))
	refuses(t, "one too many", p, api.ErrSpent, noPart(p, 9))
	refuses(t, "the most of a budget", p, api.ErrSpent, noPart(p, api.MaxBudget))
	for range api.MaxSubs {
		part(t, p, 0)
	}
	refuses(t, "a long tag, and too many parts", p, api.ErrLong, noPart(p, 0, longTag))
	refuses(t, "a budget, and too many parts", p, api.ErrPurse, noPart(p, -1))
	refuses(t, "too many parts, and words", p, api.ErrHeld, noPart(p, 9))
	q := fresh(t, 0)
	is(t, "Close", q.Close(), api.OK)
	refuses(t, "of a closed one", q, api.ErrClosed, noPart(q, 0))
	refuses(t, "of a closed one, all wrong", q, api.ErrClosed, noPart(q, -1, longTag))
	refuses(t, "of a closed one, too many words", q, api.ErrClosed, noPart(q, 1))
}

func TestTheGreatestPart(t *testing.T) {
	p := fresh(t, api.MaxBudget)
	q := part(t, p, api.MaxBudget)
	tells(t, q, api.MaxBudget, 0, 0, 0)
	tells(t, p, api.MaxBudget, api.MaxBudget, api.MaxBudget, 0, api.Held{Serial: 1, Words: api.MaxBudget})
	refuses(t, "one word more", p, api.ErrSpent, noPart(p, 1))
	refuses(t, "above the limit", q, api.ErrPurse, noPart(q, api.MaxBudget+1))
	part(t, p, 0)
}

// Leases are no parts, and a closed part makes room for another.
func TestSixtyFourParts(t *testing.T) {
	p := fresh(t, 100)
	var parts []*purse.Purse
	for i := range 64 {
		take[uint8](t, p, 0)
		parts = append(parts, part(t, p, i%2))
	}
	refuses(t, "the 65th", p, api.ErrHeld, noPart(p, 0))
	take[uint8](t, p, 8)
	part(t, parts[1], 1) // a part's parts are its own
	is(t, "Close", parts[1].Close(), api.ErrHeld)
	refuses(t, "the 65th still", p, api.ErrHeld, noPart(p, 0))
	for _, i := range []int{63, 0, 32} {
		is(t, "Close", parts[i].Close(), api.OK)
		is(t, "Close again", parts[i].Close(), api.ErrClosed)
		part(t, p, 1)
		refuses(t, "the 65th again", p, api.ErrHeld, noPart(p, 0))
	}
	if held := p.Held(); len(held) != 64+65 {
		t.Errorf("%d are out", len(held))
	}
}

// The tag, of Take and of Part.
func TestTags(t *testing.T) {
	many := func(n int) []string { return make([]string, n) }
	half := strings.Repeat("h", 32)
	for _, c := range []struct {
		tag  []string
		want string
	}{
		{nil, ""}, {many(1), ""}, {many(2), "/"}, {[]string{"a"}, "a"}, {[]string{"a", "b", "c"}, "a/b/c"}, {[]string{"", "b", ""}, "/b/"},
		{[]string{"a/b", "\x00\xff"}, "a/b/\x00\xff"}, {[]string{longTag[1:]}, longTag[1:]}, {[]string{half, half[1:]}, half + "/" + half[1:]},
		{many(65), strings.Repeat("/", 64)}, {[]string{strings.Repeat("\u00fc", 32)}, strings.Repeat("\u00fc", 32)},
	} {
		p := fresh(t, 9)
		take[int](t, p, 2, c.tag...)
		part(t, p, 3, c.tag...)
		tells(t, p, 9, 5, 5, 0, api.Held{Serial: 1, Tag: c.want, Words: 2}, api.Held{Serial: 2, Tag: c.want, Words: 3})
	}
	vast := strings.Repeat("v", 1<<20)
	for _, tag := range [][]string{
		{longTag}, {half, half}, {longTag[1:], ""}, {"", longTag[1:]}, many(66), many(1 << 20), {strings.Repeat("\u00fc", 33)}, slices.Repeat([]string{vast}, 1<<20),
	} {
		p := fresh(t, 9)
		refuses(t, "Take", p, api.ErrLong, noLease[int](p, 1, tag...))
		refuses(t, "Part", p, api.ErrLong, noPart(p, 1, tag...))
	}
}

func TestTagsAreNotKept(t *testing.T) {
	p := fresh(t, 9)
	tag := []string{"a", "b", "spare"}
	take[int](t, p, 1, tag[:2]...)
	part(t, p, 1, tag[:2]...)
	if !slices.Equal(tag, []string{"a", "b", "spare"}) {
		t.Errorf("a tag was changed: %q", tag)
	}
	tag[0], tag[1] = "x", "y"
	tells(t, p, 9, 2, 2, 0, api.Held{Serial: 1, Tag: "a/b", Words: 1}, api.Held{Serial: 2, Tag: "a/b", Words: 1})
}

// P4.5.
func TestClose(t *testing.T) {
	var none *purse.Purse
	is(t, "Close of nil", none.Close(), api.ErrNil)
	p := fresh(t, 10)
	l := take[uint8](t, p, 0) // a lease of no words is out all the same
	refuses(t, "with a lease", p, api.ErrHeld, p.Close)
	is(t, "Give", l.Give(), api.OK)
	q := part(t, p, 0)
	refuses(t, "with a part", p, api.ErrHeld, p.Close)
	take[int](t, p, 1).Give() // it was not closed by a Close that was refused
	is(t, "Close of the part", q.Close(), api.OK)
	refuses(t, "the part again", q, api.ErrClosed, q.Close)
	is(t, "Close", p.Close(), api.OK)
	refuses(t, "again", p, api.ErrClosed, p.Close)
	refuses(t, "the part once more", q, api.ErrClosed, q.Close)
	tells(t, p, 10, 0, 1, 0)
}

// Words of a part go back to its own purse, whole, and to no other.
func TestCloseOfPartInPart(t *testing.T) {
	p := fresh(t, 100)
	q := part(t, p, 50)
	r := part(t, q, 20)
	l := take[int](t, r, 7)
	is(t, "p", p.Close(), api.ErrHeld)
	is(t, "q", q.Close(), api.ErrHeld)
	is(t, "r", r.Close(), api.ErrHeld)
	is(t, "Give", l.Give(), api.OK)
	is(t, "q", q.Close(), api.ErrHeld)
	is(t, "r", r.Close(), api.OK)
	tells(t, r, 20, 0, 7, 0)
	tells(t, q, 50, 0, 20, 0)
	tells(t, p, 100, 50, 50, 0, api.Held{Serial: 1, Words: 50})
	is(t, "p", p.Close(), api.ErrHeld)
	is(t, "q", q.Close(), api.OK)
	tells(t, p, 100, 0, 50, 0)
	is(t, "p", p.Close(), api.OK)
}

func TestPartsNestDeep(t *testing.T) {
	const depth = 1 << 16
	all := []*purse.Purse{fresh(t, 5)}
	for i := range depth {
		all = append(all, part(t, all[i], 5))
	}
	refuses(t, "the outermost", all[0], api.ErrSpent, noLease[uint8](all[0], 1))
	take[int](t, all[depth], 5).Give()
	for _, p := range slices.Backward(all) {
		is(t, "Close", p.Close(), api.OK)
	}
	tells(t, all[0], 5, 0, 5, 1)
}

// P4.6.
func TestTake(t *testing.T) {
	p := fresh(t, 10)
	l := take[api.Update](t, p, 2, "u")
	if l.Len() != 2 || l.Words() != 5 || !slices.Equal(l.Slice(), make([]api.Update, 2)) {
		t.Errorf("two updates: %d, %d, %v", l.Len(), l.Words(), l.Slice())
	}
	refuses(t, "one byte too many", p, api.ErrSpent, noLease[uint8](p, 41))
	m := take[uint8](t, p, 40)
	refuses(t, "with nothing left", p, api.ErrSpent, noLease[uint8](p, 1))
	z := take[api.State](t, p, 0, "none")
	if m.Len() != 40 || m.Words() != 5 || z.Len() != 0 || z.Words() != 0 || len(z.Slice()) != 0 {
		t.Errorf("%d %d, %d %d", m.Len(), m.Words(), z.Len(), z.Words())
	}
	tells(t, p, 10, 10, 10, 2, api.Held{Serial: 1, Tag: "u", Words: 5}, api.Held{Serial: 2, Words: 5}, api.Held{Serial: 3, Tag: "none"})
}

func TestTakeErrorsInOrder(t *testing.T) {
	is(t, "of nil", noLease[int](nil, -1, longTag)(), api.ErrNil)
	p := fresh(t, 3)
	for _, n := range badLengths {
		refuses(t, fmt.Sprint("a long tag, and length ", n), p, api.ErrLong, noLease[uint8](p, n, longTag))
		refuses(t, fmt.Sprint("length ", n), p, api.ErrLength, noLease[uint8](p, n))
		refuses(t, fmt.Sprint("length ", n), p, api.ErrLength, noLease[api.State](p, n))
	}
	refuses(t, "a long tag, and too many words", p, api.ErrLong, noLease[int](p, 4, longTag))
	refuses(t, "too many words", p, api.ErrSpent, noLease[int](p, 4))
	refuses(t, "the longest", p, api.ErrSpent, noLease[int](p, api.MaxLength))
	is(t, "Close", p.Close(), api.OK)
	refuses(t, "of a closed one", p, api.ErrClosed, noLease[int](p, 0))
	refuses(t, "of a closed one, all wrong", p, api.ErrClosed, noLease[int](p, -1, longTag))
	refuses(t, "of a closed one, too many words", p, api.ErrClosed, noLease[int](p, 4))
}

func TestTheLongestLease(t *testing.T) {
	p := fresh(t, api.MaxBudget)
	l := take[uint8](t, p, api.MaxLength)
	if l.Len() != api.MaxLength || l.Words() != api.MaxLength/8 {
		t.Errorf("%d, %d", l.Len(), l.Words())
	}
	refuses(t, "Take of one more", p, api.ErrLength, noLease[uint8](p, api.MaxLength+1))
	refuses(t, "Grow by one more", p, api.ErrLength, func() api.Errno { return l.Grow(api.MaxLength + 1) })
	is(t, "Grow to none", l.Grow(0), api.OK)
	is(t, "Grow to all", l.Grow(api.MaxLength), api.OK)
	tells(t, p, api.MaxBudget, api.MaxLength/8, api.MaxLength/8, 0, api.Held{Serial: 1, Words: api.MaxLength / 8})
}

// P4.7.
func TestSliceIsTheSameMemory(t *testing.T) {
	p := fresh(t, 10)
	l := take[int32](t, p, 6)
	s := l.Slice()
	for i := range s {
		s[i] = int32(i - 3)
	}
	take[int32](t, p, 6)
	again := l.Slice()
	if !slices.Equal(again, []int32{-3, -2, -1, 0, 1, 2}) || &again[0] != &s[0] || l.Len() != 6 || l.Words() != 3 {
		t.Errorf("%v", again)
	}
	s = append(s[:2], 9) // the caller's own elements
	if l.Slice()[2] != 9 || l.Len() != 6 {
		t.Errorf("%v", l.Slice())
	}
	is(t, "Give", l.Give(), api.OK)
	if l.Slice() != nil || l.Len() != 0 || l.Words() != 0 {
		t.Errorf("given back: %v %d %d", l.Slice(), l.Len(), l.Words())
	}
}

// Every lease is filled with its own mark, its spare room too, while others come and go.
func TestLeasesShareNothing(t *testing.T) {
	p := fresh(t, 4000)
	r := dice()
	var held [][]uint8
	for i := range 1000 {
		l := take[uint8](t, p, r.IntN(30))
		if i%2 == 0 {
			is(t, "Grow", l.Grow(r.IntN(30)), api.OK)
		}
		s := l.Slice()
		s = s[:cap(s)]
		for j := range s {
			if s[j] != 0 {
				t.Fatalf("lease %d: element %d is %d", i, j, s[j])
			}
			s[j] = uint8(i)
		}
		held = append(held, s)
		if i%3 == 0 {
			is(t, "Give", l.Give(), api.OK) // what was handed out is nobody's from now on
		}
	}
	for i, s := range held {
		for j := range s {
			if s[j] != uint8(i) {
				t.Fatalf("lease %d: element %d is %d", i, j, s[j])
			}
		}
	}
}

// P4.8.
func TestGrow(t *testing.T) {
	p := fresh(t, 10)
	l := take[int64](t, p, 3, "l")
	o := take[int64](t, p, 2, "o")
	copy(l.Slice(), []int64{1, 2, 3})
	copy(o.Slice(), []int64{8, 9})
	for _, c := range []struct {
		n, used, high int
		want          []int64
	}{
		{5, 7, 7, []int64{1, 2, 3, 0, 0}}, {5, 7, 7, []int64{1, 2, 3, 0, 0}}, {2, 4, 7, []int64{1, 2}}, {4, 6, 7, []int64{1, 2, 0, 0}},
		{8, 10, 10, []int64{1, 2, 0, 0, 0, 0, 0, 0}}, {1, 3, 10, []int64{1}}, {0, 2, 10, nil}, {2, 4, 10, []int64{0, 0}}, {8, 10, 10, make([]int64, 8)},
	} {
		is(t, fmt.Sprint("Grow ", c.n), l.Grow(c.n), api.OK)
		if !slices.Equal(l.Slice(), c.want) || l.Len() != c.n || l.Words() != c.n {
			t.Errorf("Grow(%d): %v, %d, %d", c.n, l.Slice(), l.Len(), l.Words())
		}
		tells(t, p, 10, c.used, c.high, 0, api.Held{Serial: 1, Tag: "l", Words: c.n}, api.Held{Serial: 2, Tag: "o", Words: 2})
	}
	l.Slice()[0] = 5
	refuses(t, "Grow by one too many", p, api.ErrSpent, func() api.Errno { return l.Grow(9) })
	refuses(t, "Grow to the most", p, api.ErrSpent, func() api.Errno { return l.Grow(api.MaxLength) })
	if l.Len() != 8 || l.Words() != 8 || l.Slice()[0] != 5 || !slices.Equal(o.Slice(), []int64{8, 9}) {
		t.Errorf("behind a refused Grow: %v, beside it %v", l.Slice(), o.Slice())
	}
	tells(t, p, 10, 10, 10, 2, api.Held{Serial: 1, Tag: "l", Words: 8}, api.Held{Serial: 2, Tag: "o", Words: 2})
}

func TestGrowErrorsInOrder(t *testing.T) {
	var none *purse.Lease[api.Edge]
	is(t, "of nil", none.Grow(-1), api.ErrNil)
	p := fresh(t, 3)
	l := take[uint8](t, p, 24)
	same := l.Slice()
	for _, n := range badLengths {
		refuses(t, fmt.Sprint("Grow ", n), p, api.ErrLength, func() api.Errno { return l.Grow(n) })
	}
	refuses(t, "Grow 25", p, api.ErrSpent, func() api.Errno { return l.Grow(25) })
	if &l.Slice()[0] != &same[0] {
		t.Errorf("a refused Grow has moved the elements")
	}
	is(t, "Give", l.Give(), api.OK)
	for _, n := range append(badLengths, 0, 1, 25) {
		refuses(t, fmt.Sprint("given back: Grow ", n), p, api.ErrLease, func() api.Errno { return l.Grow(n) })
	}
	if l.Slice() != nil || l.Len() != 0 || l.Words() != 0 {
		t.Errorf("given back: %v", l.Slice())
	}
}

// What Grow left behind is nobody's, also where the length stays.
func TestGrowIsNewMemory(t *testing.T) {
	p := fresh(t, 10)
	l := take[uint8](t, p, 9)
	for _, n := range []int{9, 16, 16, 4, 4, 9} {
		old := l.Slice()
		old[0] = 1
		is(t, "Grow", l.Grow(n), api.OK)
		old = old[:cap(old)]
		for i := range old {
			old[i] = 77
		}
		s := l.Slice()
		for i, v := range s[:cap(s)] {
			if want := max(0, 1-i); int(v) != want {
				t.Errorf("Grow(%d): element %d is %d", n, i, v)
			}
		}
		s[0] = 2
		if old[0] != 77 {
			t.Errorf("Grow(%d): the old memory has changed", n)
		}
	}
}

// Rounded up: elements may come and go within a word.
func TestGrowWithinAWord(t *testing.T) {
	p := fresh(t, 2)
	l := take[uint8](t, p, 9)
	for n := range 17 {
		is(t, "Grow", l.Grow(n), api.OK)
		want := (n + 7) / 8
		tells(t, p, 2, want, 2, 0, api.Held{Serial: 1, Words: want})
	}
}

// P4.9.
func TestGive(t *testing.T) {
	var none *purse.Lease[uint8]
	is(t, "of nil", none.Give(), api.ErrNil)
	p := fresh(t, 10)
	a, b := take[int](t, p, 4), take[int](t, p, 6)
	s := a.Slice()
	s[1] = 42
	is(t, "Give", a.Give(), api.OK)
	refuses(t, "Give again", p, api.ErrLease, a.Give)
	tells(t, p, 10, 6, 10, 0, api.Held{Serial: 2, Words: 6})
	c := take[int](t, p, 4)
	if s[1] != 42 || c.Slice()[1] != 0 {
		t.Errorf("%v, %v", s, c.Slice())
	}
	s[2] = 43
	if c.Slice()[2] != 0 {
		t.Errorf("%v", c.Slice())
	}
	refuses(t, "Give of the first once more", p, api.ErrLease, a.Give) // it is not taken for the new one
	is(t, "Give", b.Give(), api.OK)
	is(t, "Give", c.Give(), api.OK)
	is(t, "Close", p.Close(), api.OK)
	refuses(t, "Give, the purse closed", p, api.ErrLease, c.Give)
	refuses(t, "Grow, the purse closed", p, api.ErrLease, func() api.Errno { return c.Grow(1) })
	tells(t, p, 10, 0, 10, 0)
}

// P4.10.
func TestSerials(t *testing.T) {
	p := fresh(t, 5)
	serials := func(want ...int) {
		t.Helper()
		var got []int
		for _, h := range p.Held() {
			got = append(got, h.Serial)
		}
		if !slices.Equal(got, want) {
			t.Errorf("serials %v, want %v", got, want)
		}
	}
	a := take[int](t, p, 1)
	q := part(t, p, 1)
	noLease[int](p, 9)()
	noLease[int](p, -1)()
	noPart(p, 9)()
	noPart(p, -1)()
	noPart(p, 0, longTag)()
	b := take[int](t, p, 1)
	serials(1, 2, 3)
	is(t, "Grow", b.Grow(2), api.OK)
	is(t, "Grow", b.Grow(99), api.ErrSpent)
	take[int](t, q, 1)
	a.Give()
	serials(2, 3)
	take[int](t, p, 1)
	serials(2, 3, 4)
	b.Give()
	part(t, p, 1)
	part(t, p, 0)
	serials(2, 4, 5, 6)
}

func TestNothingThere(t *testing.T) {
	var p *purse.Purse
	if p.Words() != 0 || p.Used() != 0 || p.Left() != 0 || p.High() != 0 || p.Refused() != 0 || p.Held() != nil {
		t.Errorf("a nil purse tells %s", told(p))
	}
	is(t, "Part", noPart(p, 0)(), api.ErrNil)
	is(t, "Close", p.Close(), api.ErrNil)
	is(t, "Take", noLease[uint8](p, 0)(), api.ErrNil)
	var l *purse.Lease[api.State]
	if l.Slice() != nil || l.Len() != 0 || l.Words() != 0 {
		t.Errorf("a nil lease tells %v, %d, %d", l.Slice(), l.Len(), l.Words())
	}
	is(t, "Grow", l.Grow(0), api.ErrNil)
	is(t, "Give", l.Give(), api.ErrNil)
}

// The chapter's examples.
func TestExamples(t *testing.T) {
	p := fresh(t, 10)
	first := take[uint32](t, p, 5)
	if first.Words() != 3 {
		t.Errorf("1: %d words", first.Words())
	}
	refuses(t, "1: a state", p, api.ErrSpent, noLease[api.State](p, 1))
	if l := take[uint8](t, p, 56); l.Words() != 7 || p.Used() != 10 || p.Refused() != 1 {
		t.Errorf("1: %s", told(p))
	}
	is(t, "1: Give", first.Give(), api.OK)
	tells(t, p, 10, 7, 10, 1, api.Held{Serial: 2, Words: 7})

	if l := take[api.Edge](t, p, 2); l.Words() != 3 {
		t.Errorf("2: %d words", l.Words())
	}
	if w, err := purse.Cost[api.Update](1); w != 3 || err != api.OK {
		t.Errorf("2: %d, %d", w, err)
	}
	if w, err := purse.Cost[uint8](0); w != 0 || err != api.OK {
		t.Errorf("2: %d, %d", w, err)
	}
	if w, err := purse.Cost[int](-1); w != 0 || err != api.ErrLength {
		t.Errorf("2: %d, %d", w, err)
	}

	if p, err := purse.New(-1); p != nil || err != api.ErrPurse {
		t.Errorf("3: %v, %d", p, err)
	}
	p = fresh(t, 0)
	if l := take[int](t, p, 0); l.Words() != 0 {
		t.Errorf("3: %d words", l.Words())
	}
	refuses(t, "3", p, api.ErrSpent, noLease[uint8](p, 1))

	p = fresh(t, 10)
	q := part(t, p, 6, "a", "b")
	tells(t, p, 10, 6, 6, 0, api.Held{Serial: 1, Tag: "a/b", Words: 6})
	l := take[int](t, q, 6)
	if q.Used() != 6 || p.Used() != 6 {
		t.Errorf("4: %d, %d", q.Used(), p.Used())
	}
	is(t, "4: p", p.Close(), api.ErrHeld)
	is(t, "4: q", q.Close(), api.ErrHeld)
	is(t, "4: Give", l.Give(), api.OK)
	is(t, "4: q", q.Close(), api.OK)
	tells(t, p, 10, 0, 6, 0)
	is(t, "4: Take of q", noLease[int](q, 1)(), api.ErrClosed)

	m := take[int64](t, p, 3)
	copy(m.Slice(), []int64{1, 2, 3})
	if m.Grow(5) != api.OK || !slices.Equal(m.Slice(), []int64{1, 2, 3, 0, 0}) {
		t.Errorf("5: %v", m.Slice())
	}
	if m.Grow(2) != api.OK || !slices.Equal(m.Slice(), []int64{1, 2}) || m.Words() != 2 {
		t.Errorf("5: %v, %d", m.Slice(), m.Words())
	}
}
