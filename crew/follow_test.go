package crew_test

import (
	"fmt"
	"math/rand"
	"slices"
	"testing"

	"sluice/api"
	"sluice/crew"
)

// lot is what the calls of one world answer, of each kind.
type lot struct {
	mapped  []int
	at      int
	mapErr  api.Errno
	span    int
	spanErr api.Errno
	joined  string
	joinErr api.Errno
	pipe    played
	values  []int
	last    api.Errno
}

// draw lets all kinds of calls run in a world.
func draw(w world, workers, ahead int) (l lot) {
	items := make([]int, w.items)
	for i := range items {
		items[i] = value(i)
	}
	do := func(i, a int) (int, api.Errno) {
		dally(i)
		return a + i, fail(w.do[i])
	}
	l.mapped, l.at, l.mapErr = crew.Map(workers, items, do)
	l.span, l.spanErr = crew.Spans(workers, 3*w.items, 3, func(lo, hi int) api.Errno {
		_, err := do(lo/3, hi)
		return err
	})
	l.joined, l.joinErr = crew.Reduce(workers, texts(min(w.items, len(letters))), func(a, b string) (string, api.Errno) {
		dally(len(b))
		return fmt.Sprint("(", a, b, ")"), fail(w.take[len(a)*7%50+int(b[0])%5])
	})
	l.pipe, _ = w.play(workers, ahead)
	var s told
	l.values, l.last = list(crew.Over(workers, ahead, w.asked(&s), do))
	return l
}

// same tells whether two lots are, but for the order of the caller's calls, which hangs on how many are ahead.
func (l lot) same(m lot) bool {
	return slices.Equal(l.mapped, m.mapped) && l.at == m.at && l.mapErr == m.mapErr && l.span == m.span && l.spanErr == m.spanErr &&
		l.joined == m.joined && l.joinErr == m.joinErr && l.pipe.n == m.pipe.n && l.pipe.err == m.pipe.err && slices.Equal(l.values, m.values) && l.last == m.last
}

// P10.7: with any two numbers of workers the answers are the same, and the calls of next and take; with any two numbers ahead the answers
func TestAnyTwoNumbers(t *testing.T) {
	left := alone(t, "all")
	r := rand.New(rand.NewSource(7))
	codes := []api.Errno{0, 0, 0, 4, api.ErrPanic, -9}
	for round := range 60 {
		w := world{items: r.Intn(50), next: codes[r.Intn(len(codes))], do: map[int]api.Errno{}, take: map[int]api.Errno{}}
		for range r.Intn(4) * (round % 3) {
			w.do[r.Intn(50)] = codes[r.Intn(len(codes))]
			w.take[r.Intn(50)] = codes[r.Intn(len(codes))]
		}
		var first *lot
		for _, ahead := range []int{1, 2, 5, 16, 49, api.MaxAhead} {
			want := draw(w, 1, ahead)
			if first == nil {
				first = &want
			}
			for workers := 1; workers <= api.MaxWorkers; workers += 1 + round%3 {
				got := draw(w, workers, ahead)
				if !got.same(*first) {
					t.Fatalf("%+v, %d workers, %d ahead: %+v, want %+v", w, workers, ahead, got, *first)
				}
				if !got.pipe.same(want.pipe) {
					t.Fatalf("%+v, %d workers, %d ahead: the caller's calls are %v, want %v", w, workers, ahead, got.pipe.calls, want.pipe.calls)
				}
			}
		}
	}
	left()
}

// P10.1: calls from within another one's do, each kind within each other, and errors of the innermost come out
func TestWithinOneAnother(t *testing.T) {
	left := alone(t, "all")
	kinds := []func(workers int, do func(i int) api.Errno) api.Errno{
		func(workers int, do func(i int) api.Errno) api.Errno {
			_, _, err := crew.Map(workers, make([]int, 5), func(i, _ int) (int, api.Errno) { return 0, do(i) })
			return err
		},
		func(workers int, do func(i int) api.Errno) api.Errno {
			_, err := crew.Spans(workers, 5, 1, func(lo, _ int) api.Errno { return do(lo) })
			return err
		},
		func(workers int, do func(i int) api.Errno) api.Errno {
			_, err := crew.Reduce(workers, []int{0, 0, 1, 1, 2, 2, 3, 3, 4}, func(a, b int) (int, api.Errno) { return a, do(a) })
			return err
		},
		func(workers int, do func(i int) api.Errno) api.Errno {
			n := 0
			_, err := crew.Pipe(workers, 3, func() (int, bool, api.Errno) { n++; return 0, n <= 5, api.OK }, func(i, _ int) (int, api.Errno) { return 0, do(i) }, func(int, int) api.Errno { return api.OK })
			return err
		},
		func(workers int, do func(i int) api.Errno) api.Errno {
			_, err := list(crew.Over(workers, 3, slices.Values(make([]int, 5)), func(i, _ int) (int, api.Errno) { return 0, do(i) }))
			return err
		},
	}
	for a, outer := range kinds {
		for b, middle := range kinds {
			for c, inner := range kinds {
				for _, bad := range []int{-1, 2} {
					for _, workers := range []int{1, 3, 16} {
						err := outer(workers, func(i int) api.Errno {
							return middle(workers, func(j int) api.Errno {
								return inner(workers, func(k int) api.Errno {
									if bad >= 0 && i+j+k >= bad {
										return api.Errno(100*i + 10*j + k + 1)
									}
									return api.OK
								})
							})
						})
						if want := api.Errno(bad + 1); err != want {
							t.Errorf("%d in %d in %d, %d workers: %d, want %d", c, b, a, workers, err, want)
						}
					}
				}
			}
		}
	}
	left()
}
