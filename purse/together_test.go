package purse_test

import (
	"sync"
	"sync/atomic"
	"testing"

	"sluice/api"
	"sluice/purse"
)

// together runs as many goroutines as are asked for, all let go at one moment.
func together(n int, work func(i int)) {
	var all sync.WaitGroup
	start := make(chan struct{})
	for i := range n {
		all.Go(func() {
			<-start
			work(i)
		})
	}
	close(start)
	all.Wait()
}

// P4.11: whoever comes first, as many are served as there is room for, and each serial is taken once.
func TestTakesTogether(t *testing.T) {
	for range 20 {
		p := fresh(t, 300)
		var served, refused atomic.Int64
		together(8, func(int) {
			for range 100 {
				switch _, err := purse.Take[uint8](p, 5, "x"); err {
				case api.OK:
					served.Add(1)
				case api.ErrSpent:
					refused.Add(1)
				default:
					t.Errorf("Take: %d", err)
				}
			}
		})
		if served.Load() != 300 || refused.Load() != 500 || p.Refused() != 500 || p.Used() != 300 || p.High() != 300 {
			t.Fatalf("%d served, %d refused; the purse tells %d, %d, %d", served.Load(), refused.Load(), p.Refused(), p.Used(), p.High())
		}
		for i, h := range p.Held() {
			if h != (api.Held{Serial: i + 1, Tag: "x", Words: 1}) {
				t.Fatalf("Held %d: %v", i, h)
			}
		}
	}
}

func TestPartsTogether(t *testing.T) {
	for range 20 {
		p := fresh(t, 1000)
		parts := make(chan *purse.Purse, 800)
		var held atomic.Int64
		together(8, func(int) {
			for range 100 {
				switch q, err := p.Part(3); err {
				case api.OK:
					parts <- q
				case api.ErrHeld:
					held.Add(1)
				default:
					t.Errorf("Part: %d", err)
				}
			}
		})
		close(parts)
		if len(parts) != 64 || held.Load() != 736 || p.Used() != 192 || len(p.Held()) != 64 {
			t.Fatalf("%d parts, %d refused, Used %d", len(parts), held.Load(), p.Used())
		}
		closedOnce(t, parts)
		tells(t, p, 1000, 0, 192, 0)
		is(t, "Close", p.Close(), api.OK)
	}
}

// closedOnce: many close the same parts, and each part is closed by one of them alone.
func closedOnce(t *testing.T, parts <-chan *purse.Purse) {
	t.Helper()
	var all []*purse.Purse
	for q := range parts {
		all = append(all, q)
	}
	var closed atomic.Int64
	together(8, func(int) {
		for _, q := range all {
			switch err := q.Close(); err {
			case api.OK:
				closed.Add(1)
			case api.ErrClosed:
			default:
				t.Errorf("Close: %d", err)
			}
		}
	})
	if closed.Load() != int64(len(all)) {
		t.Errorf("%d of %d closed", closed.Load(), len(all))
	}
}

// Parts come and go, each on a serial of its own.
func TestPartsComeAndGo(t *testing.T) {
	p := fresh(t, 8)
	together(8, func(int) {
		for range 2000 {
			q, err := p.Part(1)
			is(t, "Part", err, api.OK)
			is(t, "Close", q.Close(), api.OK)
		}
	})
	take[uint8](t, p, 0)
	tells(t, p, 8, 0, p.High(), 0, api.Held{Serial: 16001})
}

// One lease, given back by many: one of them has done it.
func TestOneGiveCounts(t *testing.T) {
	p := fresh(t, 1000)
	for range 200 {
		l := take[int](t, p, 7)
		var given, late atomic.Int64
		together(4, func(int) {
			l.Grow(9)
			switch l.Give() {
			case api.OK:
				given.Add(1)
			case api.ErrLease:
				late.Add(1)
			}
		})
		if given.Load() != 1 || late.Load() != 3 || p.Used() != 0 {
			t.Fatalf("%d given, %d late, Used %d", given.Load(), late.Load(), p.Used())
		}
	}
}

// One lease grown by many: some one of them was last, in the lease and in the purse alike.
func TestGrowsTogether(t *testing.T) {
	p := fresh(t, 50)
	l := take[int](t, p, 1)
	together(8, func(i int) {
		for n := range 200 {
			if err := l.Grow((i*n)%50 + 1); err != api.OK {
				t.Errorf("Grow: %d", err)
			}
			if s := l.Slice(); len(s) < 1 || len(s) > 50 || s[0] != 0 {
				t.Errorf("Slice: %v", s)
			}
			if w := l.Words(); w < 1 || w > 50 {
				t.Errorf("Words: %d", w)
			}
		}
	})
	if l.Len() != l.Words() || l.Len() != len(l.Slice()) || p.Used() != l.Len() || p.Held()[0].Words != l.Len() || p.Refused() != 0 {
		t.Errorf("%d, %d, Used %d", l.Len(), l.Words(), p.Used())
	}
}

// Who asks a lease while it grows, and while others come and go, is told what it was at some one moment.
func TestAsksTogether(t *testing.T) {
	p := fresh(t, 100)
	l := take[uint8](t, p, 8)
	together(8, func(i int) {
		for n := range 20000 {
			switch {
			case i == 0:
				l.Grow(8 + 32*(n%2))
			case i < 4:
				if o, err := purse.Take[uint8](p, 0); err != api.OK || o.Give() != api.OK {
					t.Errorf("Take: %d", err)
				}
			default:
				if s := l.Slice(); len(s) != cap(s) || len(s) != 8 && len(s) != 40 {
					t.Errorf("Slice: %d of %d", len(s), cap(s))
				}
				if w := l.Words(); w != 1 && w != 5 {
					t.Errorf("Words: %d", w)
				}
			}
		}
	})
	tells(t, p, 100, 5, 5, 0, api.Held{Serial: 1, Words: 5})
}

// P4.13, over a purse and parts of it, while others ask for its numbers.
func TestAllGivenBack(t *testing.T) {
	p := fresh(t, 200)
	q := part(t, p, 60)
	together(10, func(i int) {
		mine := []*purse.Purse{p, q}[i%2]
		for n := range 300 {
			if i >= 8 {
				watch(t, mine)
				continue
			}
			churn(t, mine, i, n)
		}
	})
	tells(t, q, 60, 0, q.High(), q.Refused())
	if q.High() > 60 || p.High() > 200 || q.High() == 0 {
		t.Errorf("High %d, %d", q.High(), p.High())
	}
	is(t, "Close", q.Close(), api.OK)
	tells(t, p, 200, 0, p.High(), p.Refused())
	is(t, "Close", p.Close(), api.OK)
}

// churn takes a lease or a part of a part, uses it, and gives it back.
func churn(t *testing.T, p *purse.Purse, i, n int) {
	if n%5 == 0 {
		if q, err := p.Part(n % 7); err == api.OK {
			churn(t, q, i, n+1)
			is(t, "Close", q.Close(), api.OK)
		}
		return
	}
	l, err := purse.Take[api.Edge](p, (i+n)%9)
	if err != api.OK {
		is(t, "Take", err, api.ErrSpent)
		return
	}
	mark(t, l.Slice(), 0, uint32(i+1))
	before := l.Len()
	if err := l.Grow((i + 2*n) % 13); err == api.OK {
		mark(t, l.Slice()[:min(before, l.Len())], uint32(i+1), 0)
	}
	is(t, "Give", l.Give(), api.OK)
}

// mark sets elements that must all be alike to something else.
func mark(t *testing.T, edges []api.Edge, from, to uint32) {
	for j := range edges {
		if edges[j].Src != from {
			t.Errorf("element %d is %d, want %d", j, edges[j].Src, from)
		}
		edges[j].Src = to
	}
}

func watch(t *testing.T, p *purse.Purse) {
	used, high, sum := p.Used(), p.High(), 0
	last := 0
	for _, h := range p.Held() {
		sum += h.Words
		if h.Serial <= last {
			t.Errorf("Held: %d behind %d", h.Serial, last)
		}
		last = h.Serial
	}
	if used < 0 || used > high || sum > p.Words() || high > p.Words() || p.Left() < 0 || p.Refused() < 0 {
		t.Errorf("Used %d, High %d, out %d", used, high, sum)
	}
}
