package ranks_test

import (
	"math"
	"math/rand/v2"
	"testing"

	"sluice/api"
	"sluice/ranks"
)

// seedOf tells the least seed by which just these of the first vertices are inside.
func seedOf(inside ...bool) uint64 {
	for seed := uint64(0); ; seed++ {
		ok := true
		for v, in := range inside {
			ok = ok && mixed(seed, uint32(v))%2 == 1 == in
		}
		if ok {
			return seed
		}
	}
}

// crossings tells of each vertex how many edges cross to it.
func crossings(states []api.State) (l []uint64) {
	for _, s := range states {
		l = append(l, ranks.Crossing(s))
	}
	return l
}

// Example 3, P15.6, P15.7: a loop never crosses, whichever side it is on.
func TestBorderExample(t *testing.T) {
	for _, inside := range []bool{false, true} {
		k := kernel{name: "borders", n: 1, kind: api.EPlain, seed: seedOf(inside), edges: between(0, 0)}
		s, stats, agg := k.run(t)
		want := api.State{0, 0, 1}
		if inside {
			want = api.State{0, 1, 0}
		}
		if s[0] != (api.State{0, 1}) || agg != want || ranks.Share(agg) != 0 || stats != (api.Stats{Rounds: 1, Edges: 1}) {
			t.Errorf("P15.6: example 3: %v %v %v", s, agg, stats)
		}
	}
}

// P15.6, P15.7: sides that are empty, sides without edges, edges that cross once and several times, both ways.
func TestBorders(t *testing.T) {
	in, out := true, false
	for _, row := range []struct {
		what   string
		inside []bool
		edges  []api.Edge
		counts []uint64
		agg    api.State
		share  uint32
	}{
		{"no edges", []bool{in, out}, nil, []uint64{0, 0}, api.State{}, 0},
		{"all inside", []bool{in, in, in}, between(0, 1, 1, 2, 2, 2), []uint64{0, 0, 0}, api.State{0, 3, 0}, 0},
		{"all outside", []bool{out, out, out}, between(0, 1, 1, 2, 2, 2, 0, 1), []uint64{0, 0, 0}, api.State{0, 0, 4}, 0},
		{"one crosses, the other side has none", []bool{in, out}, between(0, 1), []uint64{0, 1}, api.State{1, 1, 0}, 0},
		{"one crosses inwards", []bool{in, out}, between(1, 0), []uint64{1, 0}, api.State{1, 0, 1}, 0},
		{"both ways", []bool{in, out}, between(0, 1, 1, 0), []uint64{1, 1}, api.State{2, 1, 1}, 0x40000000},
		{"several times", []bool{in, out, in}, between(0, 1, 0, 1, 1, 2, 1, 2, 1, 2, 0, 2), []uint64{0, 2, 3}, api.State{5, 3, 3}, 0x3fd55555},
		{"loops count in out-degrees", []bool{in, out}, between(0, 0, 0, 0, 1, 1, 1, 0), []uint64{1, 0}, api.State{1, 2, 2}, 0x3f000000},
		{"one without edges", []bool{out, out, in, out}, between(0, 2, 2, 3, 2, 2, 3, 3, 3, 0), []uint64{0, 0, 1, 1}, api.State{2, 2, 3}, 0x3f800000},
	} {
		k := kernel{name: "borders", n: uint32(len(row.inside)), kind: api.EPlain, seed: seedOf(row.inside...), edges: row.edges}
		s, stats, agg := k.run(t)
		for v, n := range crossings(s) {
			if n != row.counts[v] {
				t.Errorf("P15.6: %s: %v", row.what, s)
			}
		}
		if agg != row.agg || ranks.Share(agg) != row.share || stats.Rounds != 1 || stats.Updates != agg[0] {
			t.Errorf("P15.6, P15.7: %s: %v %x %v, want %v %x", row.what, agg, ranks.Share(agg), stats, row.agg, row.share)
		}
	}
}

// P15.7: Share of any aggregate: the numbers are rounded, then their quotient.
func TestShare(t *testing.T) {
	for _, row := range []struct {
		agg  api.State
		want uint32
	}{
		{api.State{}, 0}, {api.State{5, 0, 7}, 0}, {api.State{5, 7, 0}, 0}, {api.State{0, 7, 7}, 0}, {api.State{none, none, none}, one}, {api.State{1, 3, 2}, 0x3f000000}, {api.State{1, 2, 3, 9, 9, 9, 9, 9}, 0x3f000000},
		{api.State{1<<24 + 1, 1, 1}, 0x4b800000}, {api.State{1<<24 + 3, 1, 2}, 0x4b800002}, {api.State{1 << 24, 1<<24 + 1, none}, one}, {api.State{1<<63 + 1<<39, 1, 1}, 0x5f000000}, {api.State{1<<63 + 1<<39 + 1, 1, 1}, 0x5f000001}, {api.State{none, 1, 1}, 0x5f800000}, {api.State{1, none, none}, 0x1f800000},
	} {
		if got := ranks.Share(row.agg); got != row.want {
			t.Errorf("P15.7: Share(%d): %x, want %x", row.agg, got, row.want)
		}
	}
	rnd := rand.New(rand.NewPCG(1, 156))
	for range 20000 {
		agg := anyState(rnd)
		want := uint32(0)
		if m := min(agg[1], agg[2]); m != 0 {
			want = near(quo(rounded(whole(agg[0])), rounded(whole(m))))
		}
		if got := ranks.Share(agg); got != want {
			t.Fatalf("P15.7: Share(%d): %x, want %x", agg, got, want)
		}
	}
}

// P15.6: what each call answers, at any state; words behind those that are kept are no one's.
func TestBorderCalls(t *testing.T) {
	in := seedOf(true, false, true)
	p := kernel{name: "borders", n: 3, seed: in}.ranker(t)
	if p.Words() != 2 || p.Sink().MonA != api.MonAdd || p.Sink().MonB != api.MonNone {
		t.Errorf("P15.6: %d %v", p.Words(), p.Sink())
	}
	for _, d := range []uint64{0, 1, 1 << 32, none} {
		if s := began(t, p, 1, api.Degrees{Out: d, In: 9}); s != (api.State{0, d}) {
			t.Errorf("P15.6: Start: %v", s)
		}
	}
	for _, row := range []struct {
		e       api.Edge
		crosses bool
	}{
		{api.Edge{Src: 0, Dst: 1}, true}, {api.Edge{Src: 1, Dst: 0, W: 9}, true}, {api.Edge{Src: 0, Dst: 2}, false}, {api.Edge{Src: 2, Dst: 0}, false}, {api.Edge{Src: 1, Dst: 1}, false}, {api.Edge{Src: 2, Dst: 2}, false},
		{api.Edge{Src: 0, Dst: math.MaxUint32}, mixed(in, math.MaxUint32)%2 == 0},
	} {
		want := uint64(0)
		if row.crosses {
			want = 1
		}
		if a, b, send, e := p.Scatter(api.Ctl{1}, api.State{9, 9, 9}, row.e, false); a != want || b != 0 || send != row.crosses || e != api.OK {
			t.Errorf("P15.6: Scatter at %v: %d %d %v %d", row.e, a, b, send, e)
		}
	}
	for _, n := range []uint64{0, 1, 1 << 32, none} {
		if s, changed, e := p.Apply(api.Ctl{1}, api.State{9, 9, 9}, 1, api.State{n, 7, 5, 5, 5, 5, 5, 5}); s != (api.State{n, 7}) || changed != (n != 0) || e != api.OK {
			t.Errorf("P15.6: Apply: %v %v %d", s, changed, e)
		}
	}
	for v, want := range []api.State{{5, 14, 3, 4}, {5, 2, 15, 4}, {5, 14, 3, 4}} {
		if got, e := p.Fold(api.Ctl{1}, api.State{1, 2, 3, 4}, uint32(v), api.State{4, 12, 9, 9}); got != want || e != api.OK {
			t.Errorf("P15.6: Fold of %d: %v %d", v, got, e)
		}
	}
}
