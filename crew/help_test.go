package crew_test

import (
	"bytes"
	"math"
	"runtime"
	"strconv"
	"sync"
	"testing"
	"time"

	"sluice/api"
)

// watch looks on while calls are made: how many run now, how many ran at one time, how often each number was called.
type watch struct {
	guard     sync.Mutex
	now, most int
	calls     map[int]int
}

// in is said when a call begins, and what it answers when that one ends.
func (w *watch) in(number int) (out func()) {
	w.guard.Lock()
	defer w.guard.Unlock()
	if w.calls == nil {
		w.calls = map[int]int{}
	}
	w.calls[number]++
	w.now++
	w.most = max(w.most, w.now)
	return func() {
		w.guard.Lock()
		defer w.guard.Unlock()
		w.now--
	}
}

// once tells whether the numbers from 0 to n - 1 were called once each, no others were, and nothing is called now.
func (w *watch) once(n int) bool {
	w.guard.Lock()
	defer w.guard.Unlock()
	for i := range n {
		if w.calls[i] != 1 {
			return false
		}
	}
	return len(w.calls) == n && w.now == 0
}

// alone holds that no goroutine is left of what is done behind its call.
func alone(t *testing.T, what string) (check func()) {
	t.Helper()
	before := runtime.NumGoroutine()
	return func() {
		t.Helper()
		for range 2000 { // one that has ended its work may still be counted for a moment
			if runtime.NumGoroutine() <= before {
				return
			}
			time.Sleep(time.Millisecond)
		}
		t.Errorf("%s: %d goroutines are left, %d were there before", what, runtime.NumGoroutine(), before)
	}
}

// ends holds that a call comes to its end at all.
func ends(t *testing.T, what string, call func()) {
	t.Helper()
	end := make(chan struct{})
	go func() {
		defer close(end)
		call()
	}()
	select {
	case <-end:
	case <-time.After(20 * time.Second):
		t.Fatalf("%s: does not end", what)
	}
}

// self tells which goroutine runs.
func self() int {
	text := make([]byte, 64)
	text = text[:runtime.Stack(text, false)]
	id, _ := strconv.Atoi(string(bytes.Fields(text)[1]))
	return id
}

// dally lets others run, now more, now less.
func dally(number int) {
	turns := number * 7 % 5
	if number%11 == 3 {
		turns = 40
	}
	for range turns {
		runtime.Gosched()
	}
}

// chain lets calls come to their ends in one order: number i ends as the rank[i]-th.
type chain struct {
	rank []int
	done []chan struct{}
}

func newChain(rank []int) *chain {
	c := &chain{rank: rank, done: make([]chan struct{}, len(rank))}
	for i := range c.done {
		c.done[i] = make(chan struct{})
	}
	return c
}

func (c *chain) wait(i int) {
	if r := c.rank[i]; r > 0 {
		<-c.done[r-1]
	}
	close(c.done[c.rank[i]])
}

// orders tells all orders of n numbers.
func orders(n int) [][]int {
	if n == 0 {
		return [][]int{{}}
	}
	var all [][]int
	for _, o := range orders(n - 1) {
		for at := range n {
			next := append([]int{}, o[:at]...)
			next = append(append(next, n-1), o[at:]...)
			all = append(all, next)
		}
	}
	return all
}

// panics are the many ways to give up.
func panics() []func() {
	var list []int
	var m map[int]int
	var p *int
	zero := 0
	return []func(){
		func() { panic("a text") },
		func() { panic(api.Errno(7)) },
		func() { panic(api.OK) },
		func() { panic(nil) },
		func() { panic([]int{1}) },
		func() { list[zero] = 1 },
		func() { m[0] = 1 },
		func() { *p = 1 },
		func() { zero = 1 / zero },
		func() { var c chan int; close(c) },
		func() {
			defer func() { panic("another one") }()
			panic("one")
		},
	}
}

// wrongWorkers are the numbers of workers that may not be.
func wrongWorkers() []int {
	return []int{0, api.MaxWorkers + 1, -1, -api.MaxWorkers, 1 << 32, 1<<32 + 1, math.MaxInt, math.MinInt}
}

// wrongAhead are the numbers ahead that may not be.
func wrongAhead() []int {
	return []int{0, api.MaxAhead + 1, -1, -api.MaxAhead, 1 << 32, 1<<32 + 1, math.MaxInt, math.MinInt}
}
