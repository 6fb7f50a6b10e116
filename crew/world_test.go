package crew_test

import (
	"fmt"
	"runtime"
	"slices"

	"sluice/api"
	"sluice/crew"
)

// world is what the caller's functions of a Pipe answer: for each item its value, and what goes wrong at which number. ErrPanic stands for a panic.
type world struct {
	items  int
	next   api.Errno // behind the last item; OK: there are no more
	do     map[int]api.Errno
	take   map[int]api.Errno
	slow   int // items from this number on take their time
	within func(i int)
}

func value(i int) int { return 1000 + 3*i }

// fail is how a function of a world answers: with the error, or by panic.
func fail(err api.Errno) api.Errno {
	if err == api.ErrPanic {
		panic("given up")
	}
	return err
}

// played is what is to be seen of a Pipe: the caller's calls, in their order, and the answer.
type played struct {
	calls []string
	n     int
	err   api.Errno
}

func (p played) same(q played) bool {
	return slices.Equal(p.calls, q.calls) && p.n == q.n && p.err == q.err
}

// read is P10.5 word by word, with nobody working: what is under way is a list.
func (w world) read(ahead int) (p played, given int) {
	var under []int
	ended := false
	for {
		for len(under) < ahead && !ended { // (1)
			p.calls = append(p.calls, fmt.Sprint("next ", given))
			if ended = given == w.items; !ended {
				under = append(under, given)
				given++
			}
		}
		if len(under) == 0 { // (2')
			p.n, p.err = given, w.next
			return p, given
		}
		least := under[0] // (2)
		if w.do[least] != api.OK {
			p.n, p.err = least, w.do[least]
			return p, given
		}
		p.calls = append(p.calls, fmt.Sprint("take ", least, " ", value(least)*2+least))
		if w.take[least] != api.OK {
			p.n, p.err = least, w.take[least]
			return p, given
		}
		under = under[1:]
	}
}

// work is the world's do, looked on at.
func (w world) work(look *watch) func(i, a int) (int, api.Errno) {
	return func(i, a int) (int, api.Errno) {
		defer look.in(i)()
		if w.slow > 0 && i >= w.slow {
			for range 50 {
				runtime.Gosched()
			}
		}
		if w.within != nil {
			w.within(i)
		}
		return a*2 + i, fail(w.do[i])
	}
}

// play runs the world's Pipe.
func (w world) play(workers, ahead int) (p played, look *watch) {
	look = &watch{}
	asked := 0
	next := func() (int, bool, api.Errno) {
		p.calls = append(p.calls, fmt.Sprint("next ", asked))
		asked++
		if asked-1 < w.items {
			return value(asked - 1), true, api.OK
		}
		return 5, w.next != api.OK, fail(w.next) // with an error the bool is not looked at
	}
	take := func(i, b int) api.Errno {
		p.calls = append(p.calls, fmt.Sprint("take ", i, " ", b))
		return fail(w.take[i])
	}
	p.n, p.err = crew.Pipe(workers, ahead, next, w.work(look), take)
	return p, look
}

// told is what is to be seen of a loop: what was asked for and gone over, in order.
type told struct {
	calls []string
	ended int // how often the items' iterator came to its end
	look  watch
}

// asked is the world's next as an iterator.
func (w world) asked(s *told) func(func(int) bool) {
	return func(yield func(int) bool) {
		defer func() { s.ended++ }()
		for i := range w.items {
			s.calls = append(s.calls, fmt.Sprint("next ", i))
			if !yield(value(i)) {
				return
			}
		}
		s.calls = append(s.calls, fmt.Sprint("next ", w.items))
		fail(w.next)
	}
}

// loop ranges over the world's Over and leaves it behind so many results (-1: never).
func (w world) loop(workers, ahead, leave int) (s *told) {
	s = &told{}
	k := 0
	for b, err := range crew.Over(workers, ahead, w.asked(s), w.work(&s.look)) {
		if err != api.OK {
			s.calls = append(s.calls, fmt.Sprint("error ", b, " ", err))
		} else {
			s.calls = append(s.calls, fmt.Sprint("take ", k, " ", b))
		}
		k++
		if k == leave {
			break
		}
	}
	return s
}

// readLoop is P10.6 word by word, by way of P10.5: the loop is take; if it is left, take ends all.
func (w world) readLoop(ahead, leave int) (calls []string, given int) {
	w.take = map[int]api.Errno{}
	if leave > 0 {
		w.take[leave-1] = 1
	}
	p, given := w.read(ahead)
	calls = p.calls
	left := leave > 0 && slices.Contains(calls, fmt.Sprint("take ", leave-1, " ", value(leave-1)*2+leave-1))
	if p.err != api.OK && !left {
		calls = append(calls, fmt.Sprint("error 0 ", p.err))
	}
	return calls, given
}
