package crew_test

import (
	"slices"
	"sync"
	"testing"

	"sluice/api"
	"sluice/crew"
)

const letters = "abcdefghijklmnopqrstuvwxyzABCDEFGHIJKLMNOPQRSTUVWXYZ0123456789<>"

// texts tells the first n letters, a text each.
func texts(n int) []string {
	var l []string
	for i := range n {
		l = append(l, letters[i:i+1])
	}
	return l
}

// tree is what a Reduce makes of letters, told from the top: as many go to the left as the greatest power of two that leaves some to the right.
func tree(s string) string {
	if len(s) == 1 {
		return s
	}
	cut := 1
	for 2*cut < len(s) {
		cut *= 2
	}
	return "(" + tree(s[:cut]) + tree(s[cut:]) + ")"
}

// pairs tells what each stage of n letters joins: stage by stage the pairs' texts.
func pairs(n int) [][]string {
	var all [][]string
	for now := texts(n); len(now) > 1; {
		var stage, next []string
		for ; len(now) > 1; now = now[2:] {
			stage = append(stage, now[0]+"+"+now[1])
			next = append(next, "("+now[0]+now[1]+")")
		}
		all = append(all, stage)
		now = append(next, now...)
	}
	return all
}

// reduce runs a Reduce of n letters and tells the calls, sorted; pairs that stand in bad answer that error (ErrPanic: they panic).
func reduce(workers, n int, bad map[string]api.Errno) (got string, err api.Errno, calls []string) {
	var guard sync.Mutex
	got, err = crew.Reduce(workers, texts(n), func(a, b string) (string, api.Errno) {
		guard.Lock()
		calls = append(calls, a+"+"+b)
		guard.Unlock()
		dally(int(a[0]))
		if bad[a+"+"+b] == api.ErrPanic {
			panic(a)
		}
		return "(" + a + b + ")", bad[a+"+"+b]
	})
	slices.Sort(calls)
	return got, err, calls
}

// P10.4: example 3
func TestReduceExample(t *testing.T) {
	if got, err, calls := reduce(2, 5, nil); got != "(((ab)(cd))e)" || err != api.OK || !slices.Equal(calls, []string{"((ab)(cd))+e", "(ab)+(cd)", "a+b", "c+d"}) {
		t.Errorf("%s, %d, %v", got, err, calls)
	}
}

// P10.4: the tree of every number of items, each pair joined once
func TestReduceTree(t *testing.T) {
	left := alone(t, "Reduce")
	for n := range len(letters) + 1 {
		want := ""
		if n > 0 {
			want = tree(letters[:n])
		}
		made := slices.Concat(pairs(n)...)
		slices.Sort(made)
		for workers := 1; workers <= api.MaxWorkers; workers++ {
			if got, err, calls := reduce(workers, n, nil); got != want || err != api.OK || !slices.Equal(calls, made) {
				t.Fatalf("%d workers, %d items: %s, %d, %v", workers, n, got, err, calls)
			}
		}
	}
	left()
}

// P10.4: and which error goes ahead
func TestReduceRefusals(t *testing.T) {
	calls := 0
	count := func(a, b int) (int, api.Errno) { calls++; return 1, 9 }
	for _, items := range [][]int{nil, {}, {7}, {7, 8}, {7, 8, 9}} {
		for _, w := range wrongWorkers() {
			if got, err := crew.Reduce(w, items, count); got != 0 || err != api.ErrArg {
				t.Errorf("%d workers, %v: %d, %d", w, items, got, err)
			}
			if got, err := crew.Reduce(w, items, nil); got != 0 || err != api.ErrNil {
				t.Errorf("%d workers, %v, no join: %d, %d", w, items, got, err)
			}
		}
		if got, err := crew.Reduce(1, items, nil); got != 0 || err != api.ErrNil {
			t.Errorf("%v, no join: %d, %d", items, got, err)
		}
	}
	if got, err := crew.Reduce(16, []int{7}, count); got != 7 || err != api.OK {
		t.Errorf("of one: %d, %d", got, err)
	}
	if got, err := crew.Reduce(1, nil, count); got != 0 || err != api.OK {
		t.Errorf("of none: %d, %d", got, err)
	}
	if calls != 0 {
		t.Errorf("join was called %d times", calls)
	}
}

// P10.4: an error at each pair of each tree, and beside it at all others to its right, and of later stages: the stage is gone through, no later one begins
func TestReduceErrors(t *testing.T) {
	left := alone(t, "Reduce")
	for n := 2; n <= 20; n++ {
		stages := pairs(n)
		for s, stage := range stages {
			made := slices.Concat(stages[:s+1]...)
			slices.Sort(made)
			for at, pair := range stage {
				alone := map[string]api.Errno{pair: 30}
				many := map[string]api.Errno{pair: 30}
				for k, other := range slices.Concat(append([][]string{stage[at+1:]}, stages[s+1:]...)...) {
					many[other] = api.Errno(k - 3)
				}
				panics := map[string]api.Errno{pair: api.ErrPanic, stage[len(stage)-1]: api.ErrPanic}
				for _, bad := range []map[string]api.Errno{alone, many, panics} {
					for _, workers := range []int{1, 2, 3, 16} {
						if got, err, calls := reduce(workers, n, bad); got != "" || err != bad[pair] || !slices.Equal(calls, made) {
							t.Fatalf("%d workers, %d items, %v: %s, %d, %v", workers, n, bad, got, err, calls)
						}
					}
				}
			}
		}
	}
	left()
}

// P10.1: panics, however they come; and how many run at one time
func TestReducePanics(t *testing.T) {
	left := alone(t, "Reduce")
	for k, give := range panics() {
		for workers := 1; workers <= api.MaxWorkers; workers++ {
			var w watch
			items := make([]int, 50)
			for i := range items {
				items[i] = i
			}
			got, err := crew.Reduce(workers, items, func(a, b int) (int, api.Errno) {
				defer w.in(a / 2)()
				dally(a)
				switch a {
				case 20:
					give()
				case 22:
					return 4, 4
				}
				return a, api.OK
			})
			if got != 0 || err != api.ErrPanic || !w.once(25) || w.most > workers {
				t.Errorf("panic %d, %d workers: %d, %d; %v, %d at one time", k, workers, got, err, w.calls, w.most)
			}
		}
	}
	left()
}

// P10.1: in whatever order the joins of a stage end, the answer is the same
func TestReduceOrders(t *testing.T) {
	for _, rank := range orders(4) {
		for _, bad := range []map[string]api.Errno{{}, {"g": 9}, {"c": 8, "g": 9}, {"a": 7, "c": 8, "e": 6, "g": 9}} {
			c := newChain(rank)
			ends(t, "Reduce", func() {
				got, err := crew.Reduce(4, texts(8), func(a, b string) (string, api.Errno) {
					if len(a) == 1 {
						c.wait(int(a[0]-'a') / 2)
					}
					return "(" + a + b + ")", bad[a]
				})
				want, code := tree(letters[:8]), api.OK
				for _, a := range []string{"g", "e", "c", "a"} {
					if bad[a] != api.OK {
						want, code = "", bad[a]
					}
				}
				if got != want || err != code {
					t.Errorf("%v, %v: %s, %d", rank, bad, got, err)
				}
			})
		}
	}
}

// P0.1: what is handed in stays as it is, spare room included
func TestReduceMemory(t *testing.T) {
	for n := range 9 {
		room := texts(12)
		crew.Reduce(3, room[:n], func(a, b string) (string, api.Errno) { return a + b, api.OK })
		if !slices.Equal(room, texts(12)) {
			t.Errorf("%d items: %v", n, room)
		}
	}
}
