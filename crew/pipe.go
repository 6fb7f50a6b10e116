package crew

import (
	"iter"

	"sluice/api"
)

// Pipe asks next for items, works on them, and hands the results to take, in order; next and take are called by the caller's goroutine alone (P10.5).
func Pipe[A, B any](workers, ahead int, next func() (A, bool, api.Errno), do func(i int, a A) (B, api.Errno), take func(i int, b B) api.Errno) (int, api.Errno) {
	if err := allowed(next == nil || do == nil || take == nil, within(workers, api.MaxWorkers), within(ahead, api.MaxAhead)); err != api.OK {
		return 0, err
	}
	return newFlow(workers, ahead, do).run(next, func(i int, b B) api.Errno {
		return caught(func() api.Errno { return take(i, b) })
	})
}

// Over is Pipe as an iterator: the results of all items, in order; an error comes as the last (P10.6).
func Over[A, B any](workers, ahead int, items iter.Seq[A], do func(i int, a A) (B, api.Errno)) iter.Seq2[B, api.Errno] {
	return func(yield func(B, api.Errno) bool) {
		left := false
		err := allowed(items == nil || do == nil, within(workers, api.MaxWorkers), within(ahead, api.MaxAhead))
		if err == api.OK {
			left, err = tell(newFlow(workers, ahead, do), items, yield)
		}
		if err != api.OK && !left {
			var zero B
			yield(zero, err)
		}
	}
}

// tell hands all results to a loop, and tells whether that was left. The loop is no take whose panic would be caught: its body's panic goes through.
func tell[A, B any](f *flow[A, B], items iter.Seq[A], yield func(B, api.Errno) bool) (left bool, err api.Errno) {
	pull, stop := iter.Pull(items)
	defer caught(func() api.Errno { // a panic of the items' own ending may not take the place of the loop's
		stop()
		return api.OK
	})
	next := func() (A, bool, api.Errno) {
		a, more := pull()
		return a, more, api.OK
	}
	_, err = f.run(next, func(_ int, b B) api.Errno {
		left = !yield(b, api.OK)
		if left {
			return api.ErrState // any error ends it; this one is not told
		}
		return api.OK
	})
	return left, err
}

// result of an item's call.
type result[B any] struct {
	value B
	err   api.Errno
}

// flow is what goes from next by the workers to take. Items that were given and not taken are under way.
type flow[A, B any] struct {
	gang         *gang
	ahead        int
	do           func(i int, a A) (B, api.Errno)
	results      []chan result[B] // by an item's number modulo ahead: when it is given, the one with the same place has been taken
	given, taken int
	over         bool      // next has come to its end,
	last         api.Errno // with this error, which stands behind all items
}

func newFlow[A, B any](workers, ahead int, do func(i int, a A) (B, api.Errno)) *flow[A, B] {
	return &flow[A, B]{gang: newGang(workers, ahead), ahead: ahead, do: do}
}

// run is all that the caller's goroutine does. A panic of take goes through.
func (f *flow[A, B]) run(next func() (A, bool, api.Errno), take func(i int, b B) api.Errno) (int, api.Errno) {
	defer f.gang.end()
	for f.fill(next); f.taken < f.given; f.fill(next) {
		r := <-f.results[f.taken%f.ahead]
		if r.err != api.OK {
			return f.taken, r.err
		}
		if err := take(f.taken, r.value); err != api.OK {
			return f.taken, err
		}
		f.taken++
	}
	return f.given, f.last
}

// fill asks for items while there may be more of them under way.
func (f *flow[A, B]) fill(next func() (A, bool, api.Errno)) {
	for !f.over && f.given-f.taken < f.ahead {
		var a A
		more := false
		err := caught(func() (err api.Errno) {
			a, more, err = next()
			return err
		})
		if err != api.OK || !more {
			f.over, f.last = true, err
			f.gang.shut()
			return
		}
		f.give(a)
	}
}

// give lets the workers have the next item. Its result finds room at once, so that no worker waits for the caller.
func (f *flow[A, B]) give(a A) {
	i := f.given
	f.given++
	if i < f.ahead {
		f.results = append(f.results, make(chan result[B], 1))
	}
	back := f.results[i%f.ahead]
	f.gang.give(func() {
		var r result[B]
		r.err = caught(func() (err api.Errno) {
			r.value, err = f.do(i, a)
			return err
		})
		back <- r
	})
}
