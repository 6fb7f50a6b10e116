package crew_test

import (
	"fmt"
	"iter"
	"math/rand"
	"runtime"
	"slices"
	"sync"
	"sync/atomic"
	"testing"
	"time"

	"sluice/api"
	"sluice/crew"
)

// loops runs a world's loop and holds it against the reading of its words.
func loops(t *testing.T, w world, workers, ahead, leave int) {
	t.Helper()
	want, given := w.readLoop(ahead, leave)
	got := w.loop(workers, ahead, leave)
	if !slices.Equal(got.calls, want) || !got.look.once(given) || got.look.most > workers || got.ended != 1 {
		t.Fatalf("%d workers, %d ahead, left behind %d, %+v: %v, want %v; %d given, %v, %d at one time; the items ended %d times", workers, ahead, leave, w, got.calls, want, given, got.look.calls, got.look.most, got.ended)
	}
}

// list tells what a loop goes over: values with OK, and the error at the end.
func list[B any](it iter.Seq2[B, api.Errno]) (values []B, last api.Errno) {
	for b, err := range it {
		if last != api.OK {
			panic("something comes behind an error")
		}
		if last = err; err == api.OK {
			values = append(values, b)
		}
	}
	return values, last
}

func square(_, a int) (int, api.Errno) { return a * a, api.OK }

// P10.6: example 7; the iterator begins anew each time
func TestOverExample(t *testing.T) {
	it := crew.Over(4, 2, slices.Values([]int{1, 2, 3}), square)
	for range 3 {
		if l, err := list(it); !slices.Equal(l, []int{1, 4, 9}) || err != api.OK {
			t.Errorf("%v, %d", l, err)
		}
	}
}

// P10.6: what may not be is told alone, ErrNil ahead of ErrArg, and nothing is called
func TestOverRefusals(t *testing.T) {
	calls := 0
	items := func(yield func(string) bool) { calls++; yield("x") }
	do := func(i int, a string) (string, api.Errno) { calls++; return a, api.OK }
	alone := func(what string, it iter.Seq2[string, api.Errno], want api.Errno) {
		t.Helper()
		for range 2 {
			n := 0
			for b, err := range it {
				if n++; b != "" || err != want {
					t.Errorf("%s: %s, %d", what, b, err)
				}
			}
			for range it {
				n++
				break
			}
			if n != 2 {
				t.Errorf("%s: %d in two loops", what, n)
			}
		}
	}
	wrong := func(workers, ahead int) {
		t.Helper()
		alone(fmt.Sprintf("Over(%d, %d)", workers, ahead), crew.Over(workers, ahead, items, do), api.ErrArg)
	}
	missing := func(workers, ahead int) {
		t.Helper()
		alone("no items", crew.Over(workers, ahead, nil, do), api.ErrNil)
		alone("no do", crew.Over[string, string](workers, ahead, items, nil), api.ErrNil)
		alone("neither", crew.Over[string, string](workers, ahead, nil, nil), api.ErrNil)
	}
	for _, w := range wrongWorkers() {
		for _, ahead := range append(wrongAhead(), 1, api.MaxAhead) {
			wrong(w, ahead)
			missing(w, ahead)
		}
	}
	for _, w := range []int{1, api.MaxWorkers} {
		for _, ahead := range wrongAhead() {
			wrong(w, ahead)
			missing(w, ahead)
		}
		missing(w, 1)
		missing(w, api.MaxAhead)
	}
	crew.Over(1, 1, items, do) // not gone over
	if calls != 0 {
		t.Errorf("%d calls", calls)
	}
}

// P10.6, P10.7: every number of workers and every number ahead, run out and left early
func TestOverEveryNumber(t *testing.T) {
	left := alone(t, "Over")
	for ahead := 1; ahead <= api.MaxAhead; ahead++ {
		for _, workers := range []int{1, 1 + ahead%api.MaxWorkers, api.MaxWorkers} {
			loops(t, world{items: ahead + workers%4 - 1}, workers, ahead, -1)
			loops(t, world{items: ahead + 5}, workers, ahead, 3)
		}
	}
	for workers := 1; workers <= api.MaxWorkers; workers++ {
		for _, ahead := range []int{1, 3, api.MaxAhead} {
			loops(t, world{items: 1000}, workers, ahead, -1)
		}
	}
	left()
}

// P10.6: left at every place; an error of do, a panic of do or of the items at every place
func TestOverEveryPlace(t *testing.T) {
	left := alone(t, "Over")
	for _, workers := range []int{1, 2, 3, 16} {
		for ahead := 1; ahead <= 8; ahead++ {
			for items := range 8 {
				for leave := range items + 3 { // 0: never
					for _, next := range []api.Errno{0, api.ErrPanic} {
						loops(t, world{items: items, next: next}, workers, ahead, leave)
						for at := range items {
							loops(t, world{items: items, next: next, do: map[int]api.Errno{at: 8, at + 1: 9}}, workers, ahead, leave)
							loops(t, world{items: items, next: next, do: map[int]api.Errno{at: api.ErrPanic}}, workers, ahead, leave)
						}
					}
				}
			}
		}
	}
	left()
}

// P10.6: worlds by chance
func TestOverWorlds(t *testing.T) {
	left := alone(t, "Over")
	r := rand.New(rand.NewSource(6))
	for range 4000 {
		w := world{items: r.Intn(40), do: map[int]api.Errno{}, slow: r.Intn(20)}
		if r.Intn(3) == 0 {
			w.next = api.ErrPanic
		}
		for range r.Intn(3) {
			w.do[r.Intn(40)] = []api.Errno{0, 1, 2, api.ErrPanic, -1, 77}[r.Intn(6)]
		}
		loops(t, w, 1+r.Intn(api.MaxWorkers), 1+r.Intn(12), r.Intn(45))
	}
	left()
}

// P10.6: an error comes with the zero value, whatever do has answered beside it, and as the last
func TestOverError(t *testing.T) {
	for _, workers := range []int{1, 4} {
		n := 0
		for b, err := range crew.Over(workers, 3, slices.Values([]string{"a", "b", "c", "d"}), func(i int, a string) ([]byte, api.Errno) {
			return []byte(a), []api.Errno{0, 0, 7, 9}[i]
		}) {
			n++
			if n < 3 && (len(b) != 1 || err != api.OK) || n == 3 && (b != nil || err != 7) || n > 3 {
				t.Errorf("%d workers: the loop's turn %d: %s, %d", workers, n, b, err)
			}
		}
		if n != 3 {
			t.Errorf("%d workers: %d turns", workers, n)
		}
	}
}

// P10.6: those under way come to their ends ahead of the loop's end, or of its last turn's, which tells an error
func TestOverLetsCome(t *testing.T) {
	for _, bad := range []api.Errno{api.OK, 8, api.ErrPanic} {
		for _, workers := range []int{1, 2, 4, 16} {
			left := alone(t, "Over")
			var ended atomic.Int64
			w := world{items: 20, do: map[int]api.Errno{2: bad}, within: func(i int) {
				if i > 2 {
					time.Sleep(2 * time.Millisecond)
				}
				ended.Add(1)
			}}
			var s told
			turns := 0
			for _, err := range crew.Over(workers, 5, w.asked(&s), w.work(&s.look)) {
				turns++
				if err != api.OK && ended.Load() != 7 {
					t.Errorf("%d workers: the error is told ahead of the ends of %d", workers, 7-ended.Load())
				}
				if turns == 3 && bad == api.OK {
					break
				}
			}
			if turns != 3 || ended.Load() != 7 || !s.look.once(7) || s.ended != 1 {
				t.Errorf("%d workers, %d: %d turns, %d ended, %v", workers, bad, turns, ended.Load(), s.look.calls)
			}
			left()
		}
	}
}

// P10.6: the loop's own panic goes through, with its value, behind the end of all goroutines and of the items; at each place, the error's turn too
func TestOverBodyPanics(t *testing.T) {
	left := alone(t, "Over")
	for _, workers := range []int{1, 2, 16} {
		for ahead := 1; ahead <= 6; ahead++ {
			for at := range 6 {
				w := world{items: 5, next: api.ErrPanic, within: func(i int) {
					if i > at {
						time.Sleep(100 * time.Microsecond)
					}
				}}
				var s told
				var value any
				func() {
					defer func() {
						value = recover()
						if s.look.now != 0 || s.ended != 1 {
							t.Errorf("%d workers, %d ahead: the panic comes ahead of the end of %d", workers, ahead, s.look.now)
						}
					}()
					turn := 0
					for range crew.Over(workers, ahead, w.asked(&s), w.work(&s.look)) {
						if turn == at {
							panic([2]int{at, ahead})
						}
						turn++
					}
				}()
				if value != [2]int{at, ahead} || !s.look.once(min(5, at+ahead)) {
					t.Errorf("%d workers, %d ahead, at %d: %v; %v", workers, ahead, at, value, s.look.calls)
				}
			}
		}
	}
	left()
}

// sour is an iterator that panics as soon as it is left.
func sour(n int) iter.Seq[int] {
	return func(yield func(int) bool) {
		for i := range n {
			if !yield(i) {
				panic("sour")
			}
		}
	}
}

// P10.6: items that panic while they are being left: it goes no further, and takes no other's place
func TestOverSourItems(t *testing.T) {
	left := alone(t, "Over")
	for _, workers := range []int{1, 3} {
		n := 0
		for b, err := range crew.Over(workers, 2, sour(9), square) {
			if n++; n == 3 {
				break
			}
			if b != (n-1)*(n-1) || err != api.OK {
				t.Errorf("%d, %d", b, err)
			}
		}
		l, err := list(crew.Over(workers, 2, sour(9), func(i, a int) (int, api.Errno) { return a, api.Errno(i / 4 * 7) }))
		if n != 3 || !slices.Equal(l, []int{0, 1, 2, 3}) || err != 7 {
			t.Errorf("%d turns; %v, %d", n, l, err)
		}
		func() {
			defer func() {
				if value := recover(); value != "body" {
					t.Errorf("the loop's own panic is %v", value)
				}
			}()
			for range crew.Over(workers, 2, sour(9), square) {
				panic("body")
			}
		}()
	}
	for k, give := range panics() {
		items := func(yield func(int) bool) {
			if yield(3) && yield(4) {
				give()
			}
		}
		if l, err := list(crew.Over(2, 5, items, square)); !slices.Equal(l, []int{9, 16}) || err != api.ErrPanic {
			t.Errorf("panic %d of the items: %v, %d", k, l, err)
		}
		l, err := list(crew.Over(2, 5, slices.Values([]int{3, 4, 5}), func(i, a int) (int, api.Errno) {
			if i == 1 {
				give()
			}
			return a, api.OK
		}))
		if !slices.Equal(l, []int{3}) || err != api.ErrPanic {
			t.Errorf("panic %d of do: %v, %d", k, l, err)
		}
	}
	left()
}

// P10.6: a loop whose goroutine is ended in its midst leaves nobody behind
func TestOverGoroutineEnds(t *testing.T) {
	left := alone(t, "Over")
	w := world{items: 20}
	var s told
	ends(t, "Over", func() {
		for range crew.Over(4, 6, w.asked(&s), w.work(&s.look)) {
			runtime.Goexit()
		}
	})
	if !s.look.once(6) || s.ended != 1 {
		t.Errorf("%v, %d", s.look.calls, s.ended)
	}
	left()
}

// P10.6: loops that are left and begun again, by break, return and a label; one within another one over the same iterator
func TestOverAgain(t *testing.T) {
	left := alone(t, "Over")
	begun := 0
	items := func(yield func(int) bool) {
		begun++
		for i := 0; i < 6 && yield(i); i++ {
		}
	}
	it := crew.Over(3, 4, items, square)
	third := func() int {
		for b, err := range it {
			if b == 9 && err == api.OK {
				return b
			}
		}
		return -1
	}
	if third() != 9 || third() != 9 || begun != 2 {
		t.Errorf("left by return: begun %d times", begun)
	}
	var seen []int
outer:
	for a := range it {
		for b := range it {
			if b > a {
				continue outer
			}
			if a == 16 {
				break outer
			}
			seen = append(seen, a+b)
		}
	}
	if !slices.Equal(seen, []int{0, 1, 2, 4, 5, 8, 9, 10, 13, 18}) || begun != 8 {
		t.Errorf("%v, begun %d times", seen, begun)
	}
	if l, err := list(it); !slices.Equal(l, []int{0, 1, 4, 9, 16, 25}) || err != api.OK || begun != 9 {
		t.Errorf("%v, %d, begun %d times", l, err, begun)
	}
	left()
}

// P10.1, P10.6: one behind another, three deep; and within do
func TestOverOverOver(t *testing.T) {
	left := alone(t, "Over")
	values := func(it iter.Seq2[int, api.Errno]) iter.Seq[int] {
		return func(yield func(int) bool) {
			for b, err := range it {
				if err != api.OK {
					panic(err)
				}
				if !yield(b) {
					return
				}
			}
		}
	}
	count := func(yield func(int) bool) {
		for i := 0; yield(i); i++ { // never ends of its own
		}
	}
	first := crew.Over(2, 3, count, square)
	second := crew.Over(4, 2, values(first), func(i, a int) (int, api.Errno) {
		sum := 0
		for b, err := range crew.Over(2, 2, slices.Values([]int{a, i}), func(_, x int) (int, api.Errno) { return x + 1, api.OK }) {
			if err != api.OK {
				return 0, err
			}
			sum += b
		}
		return sum, api.Errno(i / 15 * 9)
	})
	third := crew.Over(3, 5, values(second), func(i, a int) (int, api.Errno) { return a - 2, api.OK })
	l, err := list(third)
	var want []int
	for i := range 15 {
		want = append(want, i*i+i)
	}
	if !slices.Equal(l, want) || err != api.ErrPanic {
		t.Errorf("%v, %d", l, err)
	}
	left()
}

// P10.1: the loop's turns are the caller's goroutine's, do is others'
func TestOverGoroutines(t *testing.T) {
	me := self()
	var others atomic.Int64
	for b, err := range crew.Over(3, 4, slices.Values(make([]int, 30)), func(i, _ int) (int, api.Errno) {
		if self() != me {
			others.Add(1)
		}
		return i, api.OK
	}) {
		if self() != me || err != api.OK {
			t.Errorf("result %d: %d", b, err)
		}
	}
	if others.Load() != 30 {
		t.Errorf("do was called %d times by others", others.Load())
	}
}

// P10.6: what is asked for ahead does not wait for the workers, nor they for the loop
func TestOverAhead(t *testing.T) {
	ends(t, "Over", func() {
		all, last := make(chan struct{}), make(chan struct{})
		items := func(yield func(int) bool) {
			for i := range 7 {
				if i == 6 {
					close(all)
				}
				yield(i)
			}
		}
		n := 0
		for _, err := range crew.Over(1, 7, items, func(i, _ int) (int, api.Errno) {
			<-all
			if i == 6 {
				close(last)
			}
			return 0, api.OK
		}) {
			<-last
			if err == api.OK {
				n++
			}
		}
		if n != 7 {
			t.Errorf("%d results", n)
		}
	})
}

// P10.1: in whatever order the items' calls end, the loop sees the same
func TestOverOrders(t *testing.T) {
	for _, rank := range orders(4) {
		for _, bad := range []map[int]api.Errno{{}, {3: 9}, {1: 8, 2: api.ErrPanic}, {0: 7, 3: 6}} {
			c := newChain(rank)
			w := world{items: 4, do: bad, within: c.wait}
			want, given := w.readLoop(4, -1)
			ends(t, "Over", func() {
				if got := w.loop(4, 4, -1); !slices.Equal(got.calls, want) || !got.look.once(given) {
					t.Errorf("%v, %v: %v, want %v", rank, bad, got.calls, want)
				}
			})
		}
	}
}

// As many workers as are asked for reckon at one time, if so many items are under way.
func TestOverAtOneTime(t *testing.T) {
	for workers := 1; workers <= api.MaxWorkers; workers++ {
		ends(t, "Over", func() {
			var meet sync.WaitGroup
			meet.Add(workers)
			w := world{items: workers, within: func(int) {
				meet.Done()
				meet.Wait()
			}}
			want, _ := w.readLoop(workers+1, -1)
			if got := w.loop(workers, workers+1, -1); !slices.Equal(got.calls, want) {
				t.Errorf("%d workers: %v", workers, got.calls)
			}
		})
	}
}
