package sieve_test

import (
	"fmt"
	"math"
	"math/rand"
	"slices"
	"testing"

	"sluice/api"
	"sluice/sieve"
)

// P9.4
func TestStages(t *testing.T) {
	for _, x := range []struct{ k, fan, want int }{
		{1, 2, 0}, {1, 256, 0}, {2, 2, 1}, {2, 256, 1}, {3, 2, 2}, {4, 2, 2}, {5, 2, 3}, {9, 3, 2}, {10, 3, 3}, {27, 3, 3}, {28, 3, 4},
		{255, 256, 1}, {256, 256, 1}, {257, 256, 2}, {512, 256, 2}, {512, 2, 9}, {511, 2, 9}, {256, 2, 8}, {257, 2, 9}, {512, 8, 3}, {512, 22, 3}, {512, 23, 2}, {484, 22, 2}, {485, 22, 3},
	} {
		if s, err := sieve.Stages(x.k, x.fan); s != x.want || err != api.OK {
			t.Errorf("Stages(%d, %d): %d %v, want %d", x.k, x.fan, s, err, x.want)
		}
	}
	for k := 1; k <= api.MaxParts; k++ {
		for fan := 2; fan <= api.MaxFan; fan++ {
			s, err := sieve.Stages(k, fan)
			least := 0
			for math.Pow(float64(fan), float64(least)) < float64(k) {
				least++
			}
			if s != least || err != api.OK {
				t.Fatalf("Stages(%d, %d): %d %v, want %d", k, fan, s, err, least)
			}
		}
	}
}

// P9.4
func TestStagesRefusals(t *testing.T) {
	for _, x := range []struct {
		k, fan int
		want   api.Errno
	}{
		{0, 2, api.ErrCut}, {-1, 2, api.ErrCut}, {513, 2, api.ErrCut}, {math.MinInt, 2, api.ErrCut}, {math.MaxInt, 2, api.ErrCut},
		{0, 1, api.ErrCut}, {513, 257, api.ErrCut}, {1, 1, api.ErrFan}, {1, 0, api.ErrFan}, {1, -1, api.ErrFan}, {512, 257, api.ErrFan},
		{2, math.MinInt, api.ErrFan}, {2, math.MaxInt, api.ErrFan}, {1, 1 << 32, api.ErrFan},
	} {
		if s, err := sieve.Stages(x.k, x.fan); s != 0 || err != x.want {
			t.Errorf("Stages(%d, %d): %d %v, want %v", x.k, x.fan, s, err, x.want)
		}
	}
}

// item is a record of a shuffle: its part, and which one it is.
type item struct{ part, which int }

func (i item) its() int { return i.part }

// P9.5: example 3
func TestShuffleExample(t *testing.T) {
	a := []item{{2, 'a'}, {0, 'b'}, {1, 'c'}, {0, 'd'}}
	in, starts, err := sieve.Shuffle(a, make([]item, 4), 3, 2, item.its)
	if err != api.OK || !slices.Equal(in, []item{{0, 'b'}, {0, 'd'}, {1, 'c'}, {2, 'a'}}) || !slices.Equal(starts, []int{0, 2, 3, 4}) || &in[0] != &a[0] {
		t.Errorf("%v %v %v", in, starts, err)
	}
}

// P9.5: which error comes first, and that all else is zero and as it was
func TestShuffleRefusals(t *testing.T) {
	good := []item{{0, 1}, {1, 2}, {2, 3}}
	bad := []item{{0, 1}, {1, 2}, {3, 3}}
	below := []item{{2, 1}, {-1, 2}, {0, 3}}
	first := []item{{math.MinInt, 1}, {0, 2}, {1, 3}}
	last := []item{{2, 1}, {0, 2}, {math.MaxInt, 3}}
	for i, x := range []struct {
		a      []item
		room   int
		k, fan int
		part   func(item) int
		want   api.Errno
	}{
		{bad, 2, 0, 1, nil, api.ErrCut}, {bad, 2, 513, 257, nil, api.ErrCut}, {good, 3, -1, 2, item.its, api.ErrCut},
		{bad, 2, 3, 1, nil, api.ErrFan}, {good, 3, 3, 257, item.its, api.ErrFan}, {good, 3, 1, 0, item.its, api.ErrFan},
		{bad, 2, 3, 2, nil, api.ErrArg}, {nil, 0, 1, 2, nil, api.ErrArg}, {good, 3, 3, 2, nil, api.ErrArg},
		{bad, 2, 3, 2, item.its, api.ErrTight}, {good, 2, 3, 256, item.its, api.ErrTight}, {good, 0, 3, 2, item.its, api.ErrTight}, {[]item{{0, 1}}, 0, 1, 2, item.its, api.ErrTight},
		{bad, 3, 3, 2, item.its, api.ErrPart}, {below, 3, 3, 2, item.its, api.ErrPart}, {first, 3, 3, 3, item.its, api.ErrPart}, {last, 3, 3, 2, item.its, api.ErrPart},
		{good, 3, 2, 2, item.its, api.ErrPart}, {good, 3, 1, 2, item.its, api.ErrPart}, {[]item{{1, 1}}, 1, 1, 2, item.its, api.ErrPart}, {[]item{{-1, 1}}, 1, 1, 2, item.its, api.ErrPart},
	} {
		a := slices.Clone(x.a)
		b, whole := spare(x.room, item{-7, -7})
		in, starts, err := sieve.Shuffle(a, b, x.k, x.fan, x.part)
		if err != x.want || in != nil || starts != nil {
			t.Errorf("%d: %v %v %v, want %v", i, in, starts, err, x.want)
		}
		if !slices.Equal(a, x.a) || !slices.Equal(b, slices.Repeat([]item{{-7, -7}}, x.room)) || !whole() {
			t.Errorf("%d: a is %v, b %v", i, a, b)
		}
	}
}

// P9.5: no record, one, many; every k and fan; where the answer lies, and what is left alone
func TestShuffleAgainstSort(t *testing.T) {
	r := rand.New(rand.NewSource(2))
	for i := range 6000 {
		k := []int{1, 2, 3, 4, 5, 8, 9, 16, 17, 255, 256, 257, 511, 512}[r.Intn(14)]
		fan := []int{2, 3, 4, 5, 7, 16, 22, 23, 255, 256}[r.Intn(10)]
		n := []int{0, 1, 2, 3, 7, 30, 200}[r.Intn(7)]
		many := r.Intn(k) + 1 // only some of the parts have records
		a, wholeA := spare(n, item{-7, -7})
		b, wholeB := spare(n+r.Intn(4), item{-8, -8})
		for j := range a {
			a[j] = item{r.Intn(many) * (k / many) % k, j}
		}
		if i%3 == 0 && n > 0 {
			a[r.Intn(n)].part = k - 1
		}
		given := slices.Clone(a)
		in, starts, err := sieve.Shuffle(a, b, k, fan, item.its)
		if err != api.OK {
			t.Fatalf("%d records, k %d, fan %d: %v", n, k, fan, err)
		}
		holdShuffle(t, fmt.Sprintf("%d records, k %d, fan %d", n, k, fan), given, in, starts, k)
		stages, _ := sieve.Stages(k, fan)
		holdPlace(t, in, a, b, stages)
		if slices.ContainsFunc(b[n:], func(x item) bool { return x != item{-8, -8} }) || !wholeA() || !wholeB() {
			t.Fatalf("%d records, k %d, fan %d: places behind the records are changed", n, k, fan)
		}
	}
}

func holdShuffle(t *testing.T, what string, given, in []item, starts []int, k int) {
	t.Helper()
	want := slices.Clone(given)
	slices.SortStableFunc(want, func(x, y item) int { return x.part - y.part })
	if !slices.Equal(in, want) {
		t.Fatalf("%s: %v, want %v", what, in, want)
	}
	if len(starts) != k+1 || cap(starts) < k+1 || starts[0] != 0 || starts[k] != len(given) {
		t.Fatalf("%s: starts %v", what, starts)
	}
	for p := range k {
		for _, x := range in[starts[p]:starts[p+1]] {
			if x.part != p {
				t.Fatalf("%s: %v stands in part %d", what, x, p)
			}
		}
	}
}

func holdPlace(t *testing.T, in, a, b []item, stages int) {
	t.Helper()
	if cap(in) != len(in) || len(in) != len(a) {
		t.Fatalf("in has %d places and room for %d", len(in), cap(in))
	}
	if len(in) == 0 {
		return
	}
	if stages%2 == 0 && &in[0] != &a[0] || stages%2 == 1 && &in[0] != &b[0] {
		t.Fatalf("%d stages: in lies in the wrong list", stages)
	}
}

// P9.5: no records at all, be they nil or empty
func TestShuffleOfNothing(t *testing.T) {
	for _, a := range [][]item{nil, {}} {
		for _, b := range [][]item{nil, {}, make([]item, 3)} {
			for _, k := range []int{1, 2, 3, 512} {
				in, starts, err := sieve.Shuffle(a, b, k, 2, item.its)
				if err != api.OK || len(in) != 0 || cap(in) != 0 || !slices.Equal(starts, make([]int, k+1)) {
					t.Errorf("k %d: %v %v %v", k, in, starts, err)
				}
			}
		}
	}
}

// P9.5: starts is a new list each time; records of any type
func TestShuffleAnswersAreNew(t *testing.T) {
	a, b := []string{"1x", "0y", "1z"}, make([]string, 3)
	part := func(s string) int { return int(s[0] - '0') }
	_, first, _ := sieve.Shuffle(a, b, 2, 2, part)
	for i := range first {
		first[i] = -1
	}
	in, second, err := sieve.Shuffle(b, a, 2, 2, part)
	if err != api.OK || !slices.Equal(second, []int{0, 1, 3}) || !slices.Equal(in, []string{"0y", "1x", "1z"}) {
		t.Errorf("%v %v %v", in, second, err)
	}
	updates := []api.Update{{To: 9, A: 1}, {To: 0, A: 2}, {To: 9, A: 3}, {To: 4, A: 4}}
	told, starts, err := sieve.Shuffle(updates, make([]api.Update, 4), 4, 4, split(t, 10, 4).ByTo)
	if err != api.OK || !slices.Equal(told, []api.Update{{To: 0, A: 2}, {To: 4, A: 4}, {To: 9, A: 1}, {To: 9, A: 3}}) || !slices.Equal(starts, []int{0, 1, 2, 2, 4}) {
		t.Errorf("%v %v %v", told, starts, err)
	}
}

// P9.5, P0.1: a part that is told otherwise later on gives no panic
func TestShuffleOfAnUnsteadyPart(t *testing.T) {
	r := rand.New(rand.NewSource(3))
	for range 3000 {
		k, fan, n := r.Intn(20)+1, r.Intn(4)+2, r.Intn(10)
		calls := 0
		a, b := make([]item, n), make([]item, n)
		in, starts, err := sieve.Shuffle(a, b, k, fan, func(item) int {
			calls++
			if calls <= n {
				return r.Intn(k)
			}
			return r.Intn(3*k) - k
		})
		if err != api.OK && (in != nil || starts != nil) {
			t.Fatalf("%v %v %v", in, starts, err)
		}
	}
}
