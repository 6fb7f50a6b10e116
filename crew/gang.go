package crew

import (
	"sync"
	"sync/atomic"

	"sluice/api"
)

// gang is the workers of one call: goroutines that receive jobs from a channel till it is closed. Its methods but work are the caller's.
type gang struct {
	jobs    chan func()
	spare   int // workers that may still be begun
	joined  sync.WaitGroup
	closing sync.Once
}

// newGang is for at most so many jobs that are given and not done: more workers than that would have nothing to do.
func newGang(workers, jobs int) *gang {
	return &gang{jobs: make(chan func(), jobs), spare: min(workers, jobs)}
}

// give never waits, as there is room for every job: the caller has other things to do while all workers are busy.
func (g *gang) give(job func()) {
	if g.spare > 0 {
		g.spare--
		g.joined.Add(1)
		go g.work()
	}
	g.jobs <- job
}

func (g *gang) work() {
	defer g.joined.Done()
	for job := range g.jobs {
		job()
	}
}

// shut says that no more jobs come. It is said as soon as that is known, and at the end, whichever comes first.
func (g *gang) shut() {
	g.closing.Do(func() { close(g.jobs) })
}

// end lets all jobs that were given come to their ends, and all workers.
func (g *gang) end() {
	g.shut()
	g.joined.Wait()
}

// failure is an error and the number of the item that has it.
type failure struct {
	at  int
	err api.Errno
}

// each makes a call for each number from 0 to n - 1, behind an error too; it answers the least number whose call has an error, and that error. Each shift has one place for what it found, as a place for each number may be more than memory has.
func each(workers, n int, call func(i int) api.Errno) (int, api.Errno) {
	found := make([]failure, min(workers, n))
	g := newGang(workers, len(found))
	var counter atomic.Int64
	for w := range found {
		g.give(func() { found[w] = shift(&counter, int64(n), call) })
	}
	g.end()
	return least(found)
}

// shift takes numbers from the counter till there are no more. They rise, so that the first error it meets is its least one.
func shift(counter *atomic.Int64, n int64, call func(i int) api.Errno) (first failure) {
	for i := counter.Add(1) - 1; i < n; i = counter.Add(1) - 1 {
		err := caught(func() api.Errno { return call(int(i)) })
		if first.err == api.OK && err != api.OK {
			first = failure{int(i), err}
		}
	}
	return first
}

func least(found []failure) (int, api.Errno) {
	var first failure
	for _, f := range found {
		if f.err != api.OK && (first.err == api.OK || f.at < first.at) {
			first = f
		}
	}
	return first.at, first.err
}
