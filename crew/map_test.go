package crew_test

import (
	"fmt"
	"math/rand"
	"runtime"
	"slices"
	"sync"
	"testing"

	"sluice/api"
	"sluice/crew"
)

func plus(i, a int) (int, api.Errno) { return i + a, api.OK }

// P10.2: example 1
func TestMapExample(t *testing.T) {
	if l, n, err := crew.Map(3, []int{10, 20, 30}, plus); !slices.Equal(l, []int{10, 21, 32}) || n != 0 || err != api.OK {
		t.Errorf("%v, %d, %d", l, n, err)
	}
	l, n, err := crew.Map(3, []int{10, 20, 30}, func(i, a int) (int, api.Errno) { return 1, []api.Errno{9, 7, 0}[i] })
	if l != nil || n != 0 || err != 9 {
		t.Errorf("two errors: %v, %d, %d", l, n, err)
	}
	l, n, err = crew.Map(3, []int{10, 20, 30}, func(i, a int) (int, api.Errno) { return 1, []api.Errno{0, 7, 9}[i] })
	if l != nil || n != 1 || err != 7 {
		t.Errorf("two errors: %v, %d, %d", l, n, err)
	}
}

// P10.2: example 6, and which error goes ahead
func TestMapRefusals(t *testing.T) {
	calls := 0
	count := func(i, a int) (int, api.Errno) { calls++; return 1, 9 }
	for _, items := range [][]int{nil, {}, {1}, {1, 2, 3}} {
		for _, w := range wrongWorkers() {
			if l, n, err := crew.Map(w, items, count); l != nil || n != 0 || err != api.ErrArg {
				t.Errorf("%d workers: %v, %d, %d", w, l, n, err)
			}
			if l, n, err := crew.Map[int, int](w, items, nil); l != nil || n != 0 || err != api.ErrNil {
				t.Errorf("%d workers, no do: %v, %d, %d", w, l, n, err)
			}
		}
		if l, n, err := crew.Map[int, int](1, items, nil); l != nil || n != 0 || err != api.ErrNil {
			t.Errorf("no do: %v, %d, %d", l, n, err)
		}
	}
	if calls != 0 {
		t.Errorf("do was called %d times", calls)
	}
}

// P10.1, P10.2: every number of workers, of items none, one, fewer than workers, many more
func TestMapAll(t *testing.T) {
	left := alone(t, "Map")
	for workers := 1; workers <= api.MaxWorkers; workers++ {
		for _, size := range []int{0, 1, 2, 3, 7, 15, 16, 17, 31, 100, 1000} {
			items := rand.New(rand.NewSource(int64(size))).Perm(size)
			var w watch
			l, n, err := crew.Map(workers, items, func(i, a int) (string, api.Errno) {
				defer w.in(i)()
				dally(i)
				return fmt.Sprint(i, " ", a), api.OK
			})
			if len(l) != size || n != 0 || err != api.OK || !w.once(size) || w.most > workers {
				t.Fatalf("%d workers, %d items: %d results, %d, %d; %d at one time", workers, size, len(l), n, err, w.most)
			}
			for i, got := range l {
				if got != fmt.Sprint(i, " ", items[i]) {
					t.Fatalf("%d workers, %d items: result %d: %s", workers, size, i, got)
				}
			}
		}
	}
	left()
}

// P10.2: whose error is told: one item's, several ones', the first's, the last's; every item's call is made all the same
func TestMapErrors(t *testing.T) {
	left := alone(t, "Map")
	for workers := 1; workers <= api.MaxWorkers; workers++ {
		for size := 1; size <= 20; size++ {
			for first := range size {
				for _, step := range []int{1, 2, size} {
					var w watch
					l, n, err := crew.Map(workers, make([]int, size), func(i, _ int) (int, api.Errno) {
						defer w.in(i)()
						if i >= first && (i-first)%step == 0 {
							return i, api.Errno(100 - 7*i) // some below 0
						}
						return i, api.OK
					})
					if l != nil || n != first || err != api.Errno(100-7*first) || !w.once(size) {
						t.Fatalf("%d workers, %d items, errors from %d on: %v, %d, %d; %v", workers, size, first, l, n, err, w.calls)
					}
				}
			}
		}
	}
	left()
}

// P10.1: a panic is the item's error, however it comes; others go on
func TestMapPanics(t *testing.T) {
	left := alone(t, "Map")
	for k, give := range panics() {
		for _, workers := range []int{1, 2, 16} {
			for _, at := range []int{0, 5, 9} {
				var w watch
				l, n, err := crew.Map(workers, make([]int, 10), func(i, _ int) (int, api.Errno) {
					defer w.in(i)()
					if i == at {
						give()
					}
					if i > at {
						return 0, 8
					}
					return 0, api.OK
				})
				if l != nil || n != at || err != api.ErrPanic || !w.once(10) {
					t.Errorf("panic %d at %d, %d workers: %v, %d, %d; %v", k, at, workers, l, n, err, w.calls)
				}
			}
		}
	}
	l, n, err := crew.Map(3, make([]int, 50), func(i, _ int) (int, api.Errno) { panic(i) })
	if l != nil || n != 0 || err != api.ErrPanic {
		t.Errorf("all panic: %v, %d, %d", l, n, err)
	}
	left()
}

// P10.1: in whatever order the calls end, the answer is the same
func TestMapOrders(t *testing.T) {
	for _, rank := range orders(5) {
		for _, bad := range []int{0, 1 << 4, 1<<1 | 1<<3, 1<<0 | 1<<4, 31} {
			c := newChain(rank)
			ends(t, "Map", func() {
				l, n, err := crew.Map(5, make([]int, 5), func(i, _ int) (int, api.Errno) {
					c.wait(i)
					if bad>>i&1 == 1 {
						return 0, api.Errno(10 + i)
					}
					return i * i, api.OK
				})
				first := slices.Index([]int{bad & 1, bad >> 1 & 1, bad >> 2 & 1, bad >> 3 & 1, bad >> 4 & 1}, 1)
				if first < 0 && (!slices.Equal(l, []int{0, 1, 4, 9, 16}) || n != 0 || err != api.OK) || first >= 0 && (l != nil || n != first || err != api.Errno(10+first)) {
					t.Errorf("%v, errors %b: %v, %d, %d", rank, bad, l, n, err)
				}
			})
		}
	}
}

// Workers reckon at one time: as many as are asked for, if there are so many items.
func TestMapAtOneTime(t *testing.T) {
	for workers := 1; workers <= api.MaxWorkers; workers++ {
		ends(t, "Map", func() {
			var meet sync.WaitGroup
			meet.Add(workers)
			_, _, err := crew.Map(workers, make([]int, workers), func(int, int) (int, api.Errno) {
				meet.Done()
				meet.Wait() // comes to its end only if all have begun
				return 0, api.OK
			})
			if err != api.OK {
				t.Errorf("%d workers: %d", workers, err)
			}
		})
	}
}

// P10.1: no more goroutines than workers are there beside the caller's
func TestMapGoroutines(t *testing.T) {
	for workers := 1; workers <= api.MaxWorkers; workers++ {
		left := alone(t, "Map")
		before := runtime.NumGoroutine()
		var guard sync.Mutex
		most := 0
		crew.Map(workers, make([]int, 200), func(i, _ int) (int, api.Errno) {
			guard.Lock()
			most = max(most, runtime.NumGoroutine())
			guard.Unlock()
			runtime.Gosched()
			return 0, api.OK
		})
		if most > before+workers {
			t.Errorf("%d workers: %d goroutines beside", workers, most-before)
		}
		left()
	}
}

// P0.1: what is handed in stays as it is, spare room included; results are new memory
func TestMapMemory(t *testing.T) {
	room := []int{1, 2, 3, 4, 5, 6}
	same := func(i int, a int) (int, api.Errno) { return a, api.OK }
	first, _, _ := crew.Map(2, room[:3], same)
	second, _, _ := crew.Map(2, room[:3], same)
	for i := range first {
		first[i] = 77
	}
	first = append(first, 78, 79)
	if !slices.Equal(room, []int{1, 2, 3, 4, 5, 6}) || !slices.Equal(second, []int{1, 2, 3}) {
		t.Errorf("%v, %v, %v", room, first, second)
	}
	if l, n, err := crew.Map(2, make([]struct{}, 9), func(int, struct{}) (struct{}, api.Errno) { return struct{}{}, api.OK }); len(l) != 9 || n != 0 || err != api.OK {
		t.Errorf("items of nothing: %v, %d, %d", l, n, err)
	}
	pairs, _, _ := crew.Map(4, []string{"a", "bc"}, func(i int, a string) ([]byte, api.Errno) { return []byte(a), api.OK })
	if len(pairs) != 2 || string(pairs[0]) != "a" || string(pairs[1]) != "bc" {
		t.Errorf("lists: %v", pairs)
	}
}
