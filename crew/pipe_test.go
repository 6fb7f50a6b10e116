package crew_test

import (
	"fmt"
	"math/rand"
	"runtime"
	"slices"
	"strings"
	"sync"
	"sync/atomic"
	"testing"
	"time"

	"sluice/api"
	"sluice/crew"
)

// holds runs a world and holds it against the reading of its words.
func holds(t *testing.T, w world, workers, ahead int) {
	t.Helper()
	want, given := w.read(ahead)
	got, look := w.play(workers, ahead)
	if !got.same(want) || !look.once(given) || look.most > workers || look.most > ahead {
		t.Fatalf("%d workers, %d ahead, %+v: %v, want %v; %d given, %v, %d at one time", workers, ahead, w, got, want, given, look.calls, look.most)
	}
}

// P10.5: examples 4 and 5
func TestPipeExamples(t *testing.T) {
	for workers := 1; workers <= api.MaxWorkers; workers++ {
		for _, x := range []struct {
			w     world
			calls string
			n     int
			err   api.Errno
		}{
			{world{items: 5}, "n0 n1 n2 t0 n3 t1 n4 t2 n5 t3 t4", 5, api.OK},
			{world{items: 5, do: map[int]api.Errno{1: 8}}, "n0 n1 n2 t0 n3", 1, 8},
			{world{items: 2, next: 6}, "n0 n1 n2 t0 t1", 2, 6},
		} {
			got, look := x.w.play(workers, 3)
			var short []string
			for _, c := range got.calls {
				f := strings.Fields(c)
				short = append(short, c[:1]+f[1])
			}
			if strings.Join(short, " ") != x.calls || got.n != x.n || got.err != x.err || !look.once(strings.Count(x.calls, "n")-strings.Count(x.calls, fmt.Sprint("n", x.w.items))) {
				t.Errorf("%d workers, %+v: %v, %d, %d; %v", workers, x.w, short, got.n, got.err, look.calls)
			}
		}
	}
}

// P10.5: and which error goes ahead
func TestPipeRefusals(t *testing.T) {
	calls := 0
	next := func() (int, bool, api.Errno) { calls++; return 0, false, 9 }
	do := func(i, a int) (int, api.Errno) { calls++; return 0, 9 }
	take := func(i, b int) api.Errno { calls++; return 9 }
	refused := func(workers, ahead int, right bool) {
		t.Helper()
		if n, err := crew.Pipe(workers, ahead, next, do, take); !right && (n != 0 || err != api.ErrArg) {
			t.Errorf("Pipe(%d, %d): %d, %d", workers, ahead, n, err)
		}
		if right {
			calls--
		}
		for k := 1; k < 8; k++ {
			a, b, c := next, do, take
			if k&1 == 1 {
				a = nil
			}
			if k&2 == 2 {
				b = nil
			}
			if k&4 == 4 {
				c = nil
			}
			if n, err := crew.Pipe(workers, ahead, a, b, c); n != 0 || err != api.ErrNil {
				t.Errorf("Pipe(%d, %d) without some of its functions (%b): %d, %d", workers, ahead, k, n, err)
			}
		}
	}
	for _, w := range wrongWorkers() {
		for _, ahead := range append(wrongAhead(), 1, api.MaxAhead) {
			refused(w, ahead, false)
		}
	}
	for _, w := range []int{1, api.MaxWorkers} {
		for _, ahead := range wrongAhead() {
			refused(w, ahead, false)
		}
		refused(w, 1, true)
		refused(w, api.MaxAhead, true)
	}
	if calls != 0 {
		t.Errorf("%d calls", calls)
	}
}

// P10.5, P10.7: every number of workers and every number ahead: the calls in their order
func TestPipeEveryNumber(t *testing.T) {
	left := alone(t, "Pipe")
	for ahead := 1; ahead <= api.MaxAhead; ahead++ {
		for workers := 1; workers <= api.MaxWorkers; workers++ {
			holds(t, world{items: ahead + workers%4 - 1}, workers, ahead)
		}
	}
	for workers := 1; workers <= api.MaxWorkers; workers++ {
		for _, ahead := range []int{1, 2, 17, api.MaxAhead} {
			holds(t, world{items: 2000}, workers, ahead)
		}
	}
	left()
}

// P10.5: an error, or a panic, of next, of do and of take at every place
func TestPipeEveryPlace(t *testing.T) {
	left := alone(t, "Pipe")
	for workers := 1; workers <= api.MaxWorkers; workers++ {
		for ahead := 1; ahead <= 9; ahead++ {
			for items := range 9 {
				for _, next := range []api.Errno{0, 6, -4, api.ErrPanic} {
					holds(t, world{items: items, next: next}, workers, ahead)
				}
				for at := range items {
					for _, err := range []api.Errno{8, api.ErrPanic} {
						holds(t, world{items: items, next: 6, do: map[int]api.Errno{at: err}}, workers, ahead)
						holds(t, world{items: items, take: map[int]api.Errno{at: err}}, workers, ahead)
						holds(t, world{items: items, do: map[int]api.Errno{at: err, at + 1: 9, items - 1: -1}, take: map[int]api.Errno{at: 7, at + 1: 3}}, workers, ahead)
					}
				}
			}
		}
	}
	left()
}

// P10.5: errors of all kinds at once, in worlds by chance
func TestPipeWorlds(t *testing.T) {
	left := alone(t, "Pipe")
	r := rand.New(rand.NewSource(10))
	for range 6000 {
		w := world{items: r.Intn(40), do: map[int]api.Errno{}, take: map[int]api.Errno{}, slow: r.Intn(20)}
		codes := []api.Errno{0, 0, 1, 2, api.ErrPanic, -1, 77}
		w.next = codes[r.Intn(len(codes))]
		for range r.Intn(3) {
			w.do[r.Intn(40)] = codes[r.Intn(len(codes))]
			w.take[r.Intn(40)] = codes[r.Intn(len(codes))]
		}
		ahead := 1 + r.Intn(12)
		if r.Intn(20) == 0 {
			ahead = 1 + r.Intn(api.MaxAhead)
		}
		holds(t, w, 1+r.Intn(api.MaxWorkers), ahead)
	}
	left()
}

// P10.5: all ways to panic
func TestPipePanics(t *testing.T) {
	left := alone(t, "Pipe")
	for k, give := range panics() {
		for who := range 3 {
			calls := 0
			next := func() (int, bool, api.Errno) {
				if who == 0 && calls == 2 {
					give()
				}
				calls++
				return calls, true, api.OK
			}
			do := func(i, a int) (int, api.Errno) {
				if who == 1 && i == 2 {
					give()
				}
				return a, api.OK
			}
			taken := 0
			take := func(i, b int) api.Errno {
				if who == 2 && i == 2 {
					give()
				}
				taken++
				return api.OK
			}
			if n, err := crew.Pipe(3, 5, next, do, take); n != 2 || err != api.ErrPanic || taken != 2 || who > 0 && calls != 7 {
				t.Errorf("panic %d of %d: %d, %d; %d asked for, %d taken", k, who, n, err, calls, taken)
			}
		}
	}
	left()
}

// P10.5: next and take are called by the caller's goroutine alone, and do by others; this one does nothing but next, take and wait
func TestPipeGoroutines(t *testing.T) {
	for _, workers := range []int{1, 5, 16} {
		left := alone(t, "Pipe")
		me := self()
		before := runtime.NumGoroutine()
		var others, most atomic.Int64
		asked := 0
		n, err := crew.Pipe(workers, 20, func() (int, bool, api.Errno) {
			if self() != me {
				return 0, false, 91
			}
			asked++
			return 0, asked <= 100, api.OK
		}, func(i, _ int) (int, api.Errno) {
			if self() != me {
				others.Add(1)
			}
			if now := int64(runtime.NumGoroutine()); now > most.Load() {
				most.Store(now)
			}
			runtime.Gosched()
			return 0, api.OK
		}, func(int, int) api.Errno {
			if self() != me {
				return 92
			}
			return api.OK
		})
		if n != 100 || err != api.OK || others.Load() != 100 || int(most.Load()) > before+workers {
			t.Errorf("%d workers: %d, %d; %d by others; %d goroutines, %d before", workers, n, err, others.Load(), most.Load(), before)
		}
		left()
	}
}

// P10.5: next is asked for as many as may be under way, however busy the workers are
func TestPipeAsksAhead(t *testing.T) {
	for _, workers := range []int{1, 2, 16} {
		for _, ahead := range []int{1, 2, 3, 40, api.MaxAhead} {
			ends(t, "Pipe", func() {
				all := make(chan struct{})
				asked := 0
				n, err := crew.Pipe(workers, ahead, func() (int, bool, api.Errno) {
					asked++
					if asked == ahead {
						close(all)
					}
					return 0, asked <= ahead+1, api.OK
				}, func(i, _ int) (int, api.Errno) {
					<-all
					return 0, api.OK
				}, func(int, int) api.Errno { return api.OK })
				if n != ahead+1 || err != api.OK {
					t.Errorf("%d workers, %d ahead: %d, %d", workers, ahead, n, err)
				}
			})
		}
	}
}

// P10.5: what is under way is worked on while take takes its time
func TestPipeWorksAhead(t *testing.T) {
	for _, workers := range []int{1, 2, 16} {
		for _, ahead := range []int{1, 2, 3, 40, api.MaxAhead} {
			ends(t, "Pipe", func() {
				last := make(chan struct{})
				asked := 0
				n, err := crew.Pipe(workers, ahead, func() (int, bool, api.Errno) {
					asked++
					return 0, asked <= ahead, api.OK
				}, func(i, _ int) (int, api.Errno) {
					if i == ahead-1 {
						close(last)
					}
					return 0, api.OK
				}, func(int, int) api.Errno {
					<-last
					return api.OK
				})
				if n != ahead || err != api.OK {
					t.Errorf("%d workers, %d ahead: %d, %d", workers, ahead, n, err)
				}
			})
		}
	}
}

// P10.5 (3): behind an error items that are under way come to their ends ahead of the answer
func TestPipeLetsCome(t *testing.T) {
	left := alone(t, "Pipe")
	for _, w := range []world{{items: 9, do: map[int]api.Errno{1: 8}}, {items: 9, do: map[int]api.Errno{1: api.ErrPanic}}, {items: 9, take: map[int]api.Errno{1: 8}}, {items: 9, take: map[int]api.Errno{1: api.ErrPanic}}} {
		for _, workers := range []int{1, 2, 4, 16} {
			var ended atomic.Int64
			w.within = func(i int) {
				if i > 1 {
					time.Sleep(2 * time.Millisecond)
				}
				ended.Add(1)
			}
			got, look := w.play(workers, 5)
			if got.n != 1 || got.err != max(w.do[1], w.take[1]) || ended.Load() != 6 || !look.once(6) {
				t.Errorf("%d workers, %+v: %v; %d ended", workers, w, got, ended.Load())
			}
		}
	}
	left()
}

// P10.1: in whatever order the items' calls end, the caller sees the same
func TestPipeOrders(t *testing.T) {
	for _, rank := range orders(5) {
		for _, bad := range []map[int]api.Errno{{}, {4: 9}, {1: 8, 3: api.ErrPanic}, {0: 7, 4: 6}} {
			c := newChain(rank)
			w := world{items: 5, do: bad, within: c.wait}
			want, given := w.read(5)
			ends(t, "Pipe", func() {
				if got, look := w.play(5, 5); !got.same(want) || !look.once(given) {
					t.Errorf("%v, %v: %v, want %v", rank, bad, got, want)
				}
			})
		}
	}
}

// As many workers as are asked for reckon at one time, if so many items are under way.
func TestPipeAtOneTime(t *testing.T) {
	for workers := 1; workers <= api.MaxWorkers; workers++ {
		for _, ahead := range []int{workers, workers + 3} {
			ends(t, "Pipe", func() {
				var meet sync.WaitGroup
				meet.Add(workers)
				w := world{items: workers, within: func(int) {
					meet.Done()
					meet.Wait()
				}}
				if got, _ := w.play(workers, ahead); got.n != workers || got.err != api.OK {
					t.Errorf("%d workers, %d ahead: %v", workers, ahead, got)
				}
			})
		}
	}
}

// P10.1: calls from within next, do and take
func TestPipeWithin(t *testing.T) {
	left := alone(t, "Pipe")
	add := func(a, b int) (int, api.Errno) { return a + b, api.OK }
	asked := 0
	next := func() (int, bool, api.Errno) {
		asked++
		sum, err := crew.Reduce(2, []int{asked, asked, asked}, add)
		return sum, asked <= 30, err
	}
	do := func(i, a int) (int, api.Errno) {
		sum := 0
		_, err := crew.Pipe(3, 2, func() (int, bool, api.Errno) {
			a--
			return a, a >= 0, api.OK
		}, add, func(_, b int) api.Errno { sum += b; return api.OK })
		return sum, err
	}
	var got []int
	take := func(i, b int) api.Errno {
		l, _, err := crew.Map(4, []int{b, b}, add)
		got = append(got, l...)
		return err
	}
	n, err := crew.Pipe(5, 7, next, do, take)
	var want []int
	for i := range 30 {
		a := 3 * (i + 1)
		b := a * (a - 1) // the numbers below a, each with its place from the other end
		want = append(want, b, b+1)
	}
	if n != 30 || err != api.OK || !slices.Equal(got, want) {
		t.Errorf("%d, %d, %v, want %v", n, err, got, want)
	}
	left()
}
