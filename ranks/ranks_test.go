package ranks_test

import (
	"math"
	"math/rand/v2"
	"testing"

	"sluice/api"
	"sluice/ranks"
	"sluice/wheel"
)

// A Ranker is an api.Program.
var _ api.Program = (*ranks.Ranker)(nil)

// least and most are the numbers of damping that may be, at their ends.
const (
	least = 0x00000001
	most  = 0x3f7fffff
	half  = 0x3f000000
	none  = math.MaxUint64
)

// made tells whether a maker answered what it should: a Ranker just if there is no error.
func made(t *testing.T, what string, p *ranks.Ranker, e, want api.Errno) {
	t.Helper()
	if (p == nil) != (want != api.OK) || e != want {
		t.Errorf("%s: %v %d, want %d", what, p, e, want)
	}
}

// sizes are numbers of vertices that may be or not, rounds likewise.
var sizes = map[uint32]bool{0: false, 1: true, 2: true, 1<<24 + 1: true, api.MaxVertices - 1: true, api.MaxVertices: true, api.MaxVertices + 1: false, math.MaxUint32: false}

var paces = map[int]bool{math.MinInt: false, -1: false, 0: false, 1: true, 2: true, 65535: true, 65536: true, 65537: false, math.MaxInt: false, 1 << 32: false, 1<<32 + 1: false}

// P15.2, P15.4, P15.6, P15.8: every limit at its bound and one beyond.
func TestLimits(t *testing.T) {
	if api.MaxRanked != 65536 || api.ErrDamp != 150 || api.ErrArg != 2 {
		t.Errorf("limits: %d %d %d", api.MaxRanked, api.ErrDamp, api.ErrArg)
	}
	right := func(ok bool) api.Errno {
		if ok {
			return api.OK
		}
		return api.ErrArg
	}
	for n, ok := range sizes {
		p, e := ranks.Conductance(n, 9)
		made(t, "P15.6", p, e, right(ok))
		for _, kind := range []api.EdgeKind{math.MinInt, -1, 0, 1, 2, 3, 4, math.MaxInt} {
			p, e := ranks.SpMV(n, kind, 9)
			made(t, "P15.4", p, e, right(ok && kind >= 1 && kind <= 3))
		}
		for rounds, fine := range paces {
			p, e := ranks.HyperANF(n, rounds, 9)
			made(t, "P15.8", p, e, right(ok && fine))
			p, e = ranks.PageRank(n, half, rounds)
			made(t, "P15.2", p, e, right(ok && fine))
		}
	}
}

// P15.2: damping at its bounds; ErrArg goes ahead of ErrDamp.
func TestDamping(t *testing.T) {
	for damp, ok := range map[uint32]bool{
		0: false, least: true, 2: true, 0x007fffff: true, 0x00800000: true, half: true, most: true, 0x3f800000: false, 0x3f800001: false, 0x7f7fffff: false,
		0x7f800000: false, 0x7f800001: false, 0x7fc00000: false, 0x7fffffff: false, 0x80000000: false, 0x80000001: false, 0xbf000000: false, 0xbf7fffff: false, 0xff800000: false, 0xffc00000: false, math.MaxUint32: false,
	} {
		for n, fits := range sizes {
			for rounds, fine := range paces {
				want := api.OK
				if !ok {
					want = api.ErrDamp
				}
				if !fits || !fine {
					want = api.ErrArg
				}
				p, e := ranks.PageRank(n, damp, rounds)
				made(t, "P15.2", p, e, want)
			}
		}
	}
}

// Of a nil Ranker, and of one that no call has made: ErrNil where there is an error to answer, else zero.
func TestNoRanker(t *testing.T) {
	for what, p := range map[string]*ranks.Ranker{"nil": nil, "a zero one": new(ranks.Ranker)} {
		if p.Words() != 0 || p.Both() || p.Sink() != (api.Sink{}) {
			t.Errorf("%s: %d %v %v", what, p.Words(), p.Both(), p.Sink())
		}
		c, s := api.Ctl{1, 2, 3, 4}, api.State{1, 2, 3, 4, 5, 6, 7, 8}
		if got, e := p.Start(3, api.Degrees{Out: 1, In: 2}); got != (api.State{}) || e != api.ErrNil {
			t.Errorf("%s: Start: %v %d", what, got, e)
		}
		for _, back := range []bool{false, true} {
			if a, b, send, e := p.Scatter(c, s, api.Edge{Src: 1, Dst: 2, W: 3}, back); a != 0 || b != 0 || send || e != api.ErrNil {
				t.Errorf("%s: Scatter: %d %d %v %d", what, a, b, send, e)
			}
		}
		if got, changed, e := p.Apply(c, s, 3, s); got != (api.State{}) || changed || e != api.ErrNil {
			t.Errorf("%s: Apply: %v %v %d", what, got, changed, e)
		}
		if got, e := p.Fold(c, s, 3, s); got != (api.State{}) || e != api.ErrNil {
			t.Errorf("%s: Fold: %v %d", what, got, e)
		}
		if got, done, e := p.Turn(c, s, 3, 4); got != (api.Ctl{}) || done || e != api.ErrNil {
			t.Errorf("%s: Turn: %v %v %d", what, got, done, e)
		}
		if _, _, e := wheel.Memory(1, true, nil, p, 1, 1); e != api.ErrProgram {
			t.Errorf("%s: run: %d", what, e)
		}
	}
}

// All go along edges forwards alone, whatever the state; and none answers an error or panics, whatever it is given.
func TestForwardsAlone(t *testing.T) {
	rnd := rand.New(rand.NewPCG(1, 151))
	for _, name := range names {
		for range 3000 {
			k := anyKernel(rnd, name, 9)
			p := k.ranker(t)
			c := api.Ctl{anyWord(rnd), anyWord(rnd), anyWord(rnd), anyWord(rnd)}
			s, agg := anyState(rnd), anyState(rnd)
			v, u := rnd.Uint32()>>rnd.IntN(33), rnd.Uint32()>>rnd.IntN(33)
			if p.Both() {
				t.Fatalf("%s goes backwards", name)
			}
			if a, b, send, e := p.Scatter(c, s, api.Edge{Src: u, Dst: v, W: rnd.Uint32()}, true); a != 0 || b != 0 || send || e != api.OK {
				t.Fatalf("%s: backwards: %d %d %v %d", name, a, b, send, e)
			}
			_, _, _, e1 := p.Scatter(c, s, api.Edge{Src: u, Dst: v, W: rnd.Uint32()}, false)
			_, e2 := p.Start(v, api.Degrees{Out: anyWord(rnd), In: anyWord(rnd)})
			_, _, e3 := p.Apply(c, agg, v, s)
			_, e4 := p.Fold(c, agg, v, s)
			_, _, e5 := p.Turn(c, agg, anyWord(rnd), int(anyWord(rnd)))
			if e1 != api.OK || e2 != api.OK || e3 != api.OK || e4 != api.OK || e5 != api.OK {
				t.Fatalf("%s answers %d %d %d %d %d", name, e1, e2, e3, e4, e5)
			}
		}
	}
}

// P15.2, P15.4, P15.6, P15.8: when a run is done.
func TestDone(t *testing.T) {
	for _, row := range []struct {
		rounds  int
		changed uint64
		round   int
		paced   bool // pages and balls; the others are always done
	}{
		{3, 0, 1, true}, {3, 1, 1, false}, {3, none, 2, false}, {3, 1, 3, true}, {3, 0, 3, true}, {3, 5, 4, true},
		{1, 1, 1, true}, {1, 0, 1, true}, {65536, 1, 65535, false}, {65536, 1 << 32, 65535, false}, {65536, 1, 65536, true}, {65536, 0, 65535, true},
	} {
		for _, name := range names {
			k := kernel{name: name, n: 5, kind: api.EPlain, damp: half, rounds: row.rounds}
			want := row.paced || name == "products" || name == "borders"
			if _, done, e := k.ranker(t).Turn(api.Ctl{}, api.State{1, 2, 3}, row.changed, row.round); done != want || e != api.OK {
				t.Errorf("%s of %d rounds: %d changed in round %d: %v %d", name, row.rounds, row.changed, row.round, done, e)
			}
		}
	}
}

// P15.3, P15.5, P15.7: what is told of any state.
func TestTold(t *testing.T) {
	rnd := rand.New(rand.NewPCG(2, 151))
	for range 2000 {
		s := anyState(rnd)
		if ranks.Rank(s) != uint32(s[6]%(1<<32)) || ranks.Product(s) != uint32(s[7]%(1<<32)) || ranks.Crossing(s) != s[0] {
			t.Fatalf("P15.3, P15.5, P15.7: %x: %x %x %x", s, ranks.Rank(s), ranks.Product(s), ranks.Crossing(s))
		}
	}
}
