package crew_test

import (
	"math"
	"slices"
	"sync"
	"testing"

	"sluice/api"
	"sluice/crew"
)

// spans runs a Spans and tells the spans it has called, sorted; those whose number stands in bad answer that error.
func spans(workers, n, size int, bad map[int]api.Errno) (calls [][2]int, at int, err api.Errno) {
	var guard sync.Mutex
	at, err = crew.Spans(workers, n, size, func(lo, hi int) api.Errno {
		guard.Lock()
		calls = append(calls, [2]int{lo, hi})
		guard.Unlock()
		dally(lo)
		return bad[lo/size]
	})
	slices.SortFunc(calls, func(a, b [2]int) int { return a[0] - b[0] })
	return calls, at, err
}

// P10.3: example 2
func TestSpansExample(t *testing.T) {
	if calls, at, err := spans(2, 10, 4, nil); !slices.Equal(calls, [][2]int{{0, 4}, {4, 8}, {8, 10}}) || at != 0 || err != api.OK {
		t.Errorf("%v, %d, %d", calls, at, err)
	}
}

// P10.3: each number's turn comes once, in spans of the size that is asked for, the last one perhaps shorter
func TestSpansAll(t *testing.T) {
	left := alone(t, "Spans")
	for _, workers := range []int{1, 2, 3, 8, 16} {
		for n := range 41 {
			for size := 1; size <= 43; size++ {
				calls, at, err := spans(workers, n, size, nil)
				var want [][2]int
				for lo := 0; lo < n; lo += size {
					want = append(want, [2]int{lo, min(lo+size, n)})
				}
				if !slices.Equal(calls, want) || at != 0 || err != api.OK {
					t.Fatalf("Spans(%d, %d, %d): %v, %d, %d", workers, n, size, calls, at, err)
				}
			}
		}
	}
	left()
}

// P10.3: n and size at the end of all numbers
func TestSpansGreat(t *testing.T) {
	for _, x := range []struct {
		n, size int
		want    [][2]int
	}{
		{math.MaxInt, math.MaxInt, [][2]int{{0, math.MaxInt}}},
		{1, math.MaxInt, [][2]int{{0, 1}}},
		{0, math.MaxInt, nil},
		{math.MaxInt, math.MaxInt - 1, [][2]int{{0, math.MaxInt - 1}, {math.MaxInt - 1, math.MaxInt}}},
		{math.MaxInt - 1, math.MaxInt, [][2]int{{0, math.MaxInt - 1}}},
		{math.MaxInt, 1 << 62, [][2]int{{0, 1 << 62}, {1 << 62, math.MaxInt}}},
		{math.MaxInt, 1 << 61, [][2]int{{0, 1 << 61}, {1 << 61, 1 << 62}, {1 << 62, 3 << 61}, {3 << 61, math.MaxInt}}},
	} {
		for _, workers := range []int{1, 3, 16} {
			if calls, at, err := spans(workers, x.n, x.size, nil); !slices.Equal(calls, x.want) || at != 0 || err != api.OK {
				t.Errorf("Spans(%d, %d, %d): %v, %d, %d", workers, x.n, x.size, calls, at, err)
			}
		}
	}
}

// P10.3: and which error goes ahead
func TestSpansRefusals(t *testing.T) {
	calls := 0
	count := func(lo, hi int) api.Errno { calls++; return 9 }
	refused := func(w, n, size int) {
		t.Helper()
		if at, err := crew.Spans(w, n, size, count); at != 0 || err != api.ErrArg {
			t.Errorf("Spans(%d, %d, %d): %d, %d", w, n, size, at, err)
		}
		if at, err := crew.Spans(w, n, size, nil); at != 0 || err != api.ErrNil {
			t.Errorf("Spans(%d, %d, %d), no do: %d, %d", w, n, size, at, err)
		}
	}
	for _, w := range wrongWorkers() {
		refused(w, 5, 2)
		refused(w, 0, 1)
		refused(w, -1, 0)
	}
	for _, workers := range []int{1, 16} {
		for _, n := range []int{-1, -5, math.MinInt} {
			refused(workers, n, 1)
			refused(workers, n, math.MaxInt)
		}
		for _, size := range []int{0, -1, math.MinInt} {
			refused(workers, 0, size)
			refused(workers, 1, size)
			refused(workers, -1, size)
		}
		if at, err := crew.Spans(workers, 0, 1, nil); at != 0 || err != api.ErrNil {
			t.Errorf("no do: %d, %d", at, err)
		}
		if at, err := crew.Spans(workers, 0, 1, count); at != 0 || err != api.OK {
			t.Errorf("no span: %d, %d", at, err)
		}
	}
	if calls != 0 {
		t.Errorf("do was called %d times", calls)
	}
}

// P10.3: the first span with an error, by its number; every span's call is made all the same
func TestSpansErrors(t *testing.T) {
	left := alone(t, "Spans")
	for workers := 1; workers <= api.MaxWorkers; workers++ {
		for _, size := range []int{1, 3, 7} {
			const count = 12
			n := count*size - size/2
			for first := range count {
				for _, step := range []int{1, 3, count} {
					bad := map[int]api.Errno{}
					for i := first; i < count; i += step {
						bad[i] = api.Errno(50 - 9*i)
					}
					if calls, at, err := spans(workers, n, size, bad); len(calls) != count || at != first || err != bad[first] {
						t.Fatalf("%d workers, size %d, errors %v: %d calls, %d, %d", workers, size, bad, len(calls), at, err)
					}
				}
			}
		}
	}
	left()
}

// P10.1, P10.3: panics, and how many run at one time
func TestSpansPanics(t *testing.T) {
	left := alone(t, "Spans")
	for k, give := range panics() {
		for workers := 1; workers <= api.MaxWorkers; workers++ {
			var w watch
			at, err := crew.Spans(workers, 100, 3, func(lo, hi int) api.Errno {
				defer w.in(lo / 3)()
				dally(lo)
				switch lo {
				case 60:
					return 8
				case 57, 99:
					give()
				}
				return api.OK
			})
			if at != 19 || err != api.ErrPanic || !w.once(34) || w.most > workers {
				t.Errorf("panic %d, %d workers: %d, %d; %v, %d at one time", k, workers, at, err, w.calls, w.most)
			}
		}
	}
	left()
}

// P10.3: very many spans
func TestSpansMany(t *testing.T) {
	const n = 300000
	for _, workers := range []int{1, 7, 16} {
		marks := make([]uint8, n)
		at, err := crew.Spans(workers, n, 1, func(lo, hi int) api.Errno {
			marks[lo]++
			if hi != lo+1 {
				return 3
			}
			if lo >= n-2 {
				return api.Errno(n - lo)
			}
			return api.OK
		})
		if at != n-2 || err != 2 || slices.Min(marks) != 1 || slices.Max(marks) != 1 {
			t.Errorf("%d workers: %d, %d", workers, at, err)
		}
	}
}
