package flows_test

import (
	"math"
	"math/rand/v2"
	"slices"
	"testing"

	"sluice/api"
	"sluice/flows"
	"sluice/wheel"
)

// A Flow is an api.Program.
var _ api.Program = (*flows.Flow)(nil)

// kinds of edges, and numbers that are none.
var kinds = []api.EdgeKind{math.MinInt, -1, 0, api.EPlain, api.ECounted, api.EReal, 4, math.MaxInt}

// P13.1, P13.3, P13.4, P13.6: how many vertices there may be, and which sources; with an error no Flow; ErrArg goes ahead of ErrSource.
func TestWhatMayBe(t *testing.T) {
	for _, n := range []uint32{0, 1, 2, 3, api.MaxVertices - 1, api.MaxVertices, api.MaxVertices + 1, math.MaxUint32} {
		told := func(what string, p *flows.Flow, got, want api.Errno) {
			t.Helper()
			if n == 0 || n > api.MaxVertices {
				want = api.ErrArg
			}
			if got != want || (p != nil) != (want == api.OK) {
				t.Errorf("%s of %d vertices: %v, %d, want %d", what, n, p, got, want)
			}
		}
		p, e := flows.WCC(n)
		told("P13.4: WCC", p, e, api.OK)
		p, e = flows.Reach(n)
		told("P13.3: Reach from nowhere", p, e, api.ErrSource)
		for _, source := range []uint32{0, n - 1, n, n + 1, math.MaxUint32} {
			want := api.OK
			if source >= n {
				want = api.ErrSource
			}
			p, e = flows.BFS(n, source)
			told("P13.1: BFS", p, e, want)
			p, e = flows.Reach(n, source)
			told("P13.3: Reach", p, e, want)
			p, e = flows.Reach(n, source, 0)
			told("P13.3: Reach from two", p, e, want)
			p, e = flows.Reach(n, 0, source, 0)
			told("P13.3: Reach from three", p, e, want)
			for _, kind := range kinds {
				wanted := want
				if kind != api.EPlain && kind != api.ECounted {
					wanted = api.ErrArg
				}
				p, e = flows.SSSP(n, source, kind)
				told("P13.6: SSSP", p, e, wanted)
			}
		}
	}
}

// P13.3: at most MaxSources, the same twice counts as two.
func TestHowManySources(t *testing.T) {
	for _, row := range []struct {
		sources []uint32
		want    api.Errno
	}{
		{nil, api.ErrSource},
		{[]uint32{}, api.ErrSource},
		{[]uint32{99}, api.OK},
		{[]uint32{7, 7}, api.OK},
		{slices.Repeat([]uint32{3}, api.MaxSources), api.OK},
		{slices.Repeat([]uint32{3}, api.MaxSources+1), api.ErrSource},
		{slices.Repeat([]uint32{3}, 100000), api.ErrSource},
		{slices.Repeat([]uint32{100}, api.MaxSources+1), api.ErrSource},
		{append(slices.Repeat([]uint32{3}, api.MaxSources-1), 100), api.ErrSource},
		{append(slices.Repeat([]uint32{3}, api.MaxSources-1), 99), api.OK},
	} {
		if p, e := flows.Reach(100, row.sources...); e != row.want || (p != nil) != (e == api.OK) {
			t.Errorf("P13.3: %d sources: %d, want %d", len(row.sources), e, row.want)
		}
		if p, e := flows.Reach(0, row.sources...); e != api.ErrArg || p != nil {
			t.Errorf("P13.3: of no vertices, %d sources: %d", len(row.sources), e)
		}
	}
	all := make([]uint32, api.MaxSources)
	for i := range all {
		all[i] = uint32(len(all) - 1 - i)
	}
	k := kernel{name: "reach", n: api.MaxSources + 1, sources: all}
	s, _, agg := k.run(t)
	k.rightLevels(t, s)
	if agg != (api.State{api.MaxSources, 0}) {
		t.Errorf("P13.3: %v", agg)
	}
}

// P0.1: the list of sources is not kept, and not changed.
func TestSourcesAreTheCallers(t *testing.T) {
	sources := []uint32{4, 2, 4, 0, 9}
	p, e := flows.Reach(5, sources[:3]...)
	if e != api.OK || !slices.Equal(sources, []uint32{4, 2, 4, 0, 9}) {
		t.Fatal(sources, e)
	}
	sources[0], sources[1], sources[2] = 1, 1, 1
	s, _, e := wheel.Memory(5, false, nil, p, 1, 1)
	if got := words(s, 0, 1); e != api.OK || !slices.Equal(got, []uint64{api.Unreached, api.Unreached, api.Unreached, api.Unreached, 0, 2, api.Unreached, api.Unreached, 0, 4}) {
		t.Errorf("%d %d", got, e)
	}
}

// Of a nil Flow, and of one that no call has made: ErrNil where there is an error to answer, else zero.
func TestNoFlow(t *testing.T) {
	for what, p := range map[string]*flows.Flow{"nil": nil, "a zero one": new(flows.Flow)} {
		if p.Words() != 0 || p.Both() || p.Sink() != (api.Sink{}) {
			t.Errorf("%s: %d %v %v", what, p.Words(), p.Both(), p.Sink())
		}
		c, s := api.Ctl{1, 2, 3, 4}, api.State{1, 2, 3, 4, 5, 6, 7, 8}
		if got, e := p.Start(3, api.Degrees{Out: 1, In: 2}); got != (api.State{}) || e != api.ErrNil {
			t.Errorf("%s: Start: %v %d", what, got, e)
		}
		if a, b, send, e := p.Scatter(c, s, api.Edge{Src: 1, Dst: 2, W: 3}, true); a != 0 || b != 0 || send || e != api.ErrNil {
			t.Errorf("%s: Scatter: %d %d %v %d", what, a, b, send, e)
		}
		if got, changed, e := p.Apply(c, s, 3, s); got != (api.State{}) || changed || e != api.ErrNil {
			t.Errorf("%s: Apply: %v %v %d", what, got, changed, e)
		}
		if got, e := p.Fold(c, s, 3, s); got != (api.State{}) || e != api.ErrNil {
			t.Errorf("%s: Fold: %v %d", what, got, e)
		}
		if got, done, e := p.Turn(c, s, 3, 4); got != (api.Ctl{}) || done || e != api.ErrNil {
			t.Errorf("%s: Turn: %v %v %d", what, got, done, e)
		}
		if _, _, e := wheel.Memory(1, true, nil, p, 1, 1); e != api.ErrProgram {
			t.Errorf("%s: run: %d", what, e)
		}
	}
}

// Which programs go backwards; those that do not send nothing that way, and give the same over a graph with back edges as over one without.
func TestDirections(t *testing.T) {
	rnd := rand.New(rand.NewPCG(1, 13))
	for _, name := range names {
		k := anyKernel(rnd, name, 9)
		p := k.flow(t)
		if p.Both() != (name == "wcc") {
			t.Errorf("%s: %v", name, p.Both())
		}
		if name == "wcc" {
			if _, _, e := wheel.Memory(k.n, false, k.edges, p, 100, 1); e != api.ErrBack {
				t.Errorf("P13.4: without back edges: %d", e)
			}
			continue
		}
		s, _ := p.Start(k.sources[0], api.Degrees{})
		if _, _, send, e := p.Scatter(api.Ctl{}, s, api.Edge{}, false); !send || e != api.OK {
			t.Errorf("%s: nothing goes forwards: %d", name, e)
		}
		if a, b, send, e := p.Scatter(api.Ctl{}, s, api.Edge{}, true); a != 0 || b != 0 || send || e != api.OK {
			t.Errorf("%s: backwards: %d %d %v %d", name, a, b, send, e)
		}
		with, stats, e := wheel.Memory(k.n, true, k.edges, p, 100, 1)
		without, other, f := wheel.Memory(k.n, false, k.edges, p, 100, 1)
		if e != api.OK || f != api.OK || stats != other || !slices.Equal(with, without) {
			t.Errorf("%s: back edges change the answer", name)
		}
	}
}

// anyWord tells a word, often one at a bound.
func anyWord(rnd *rand.Rand) uint64 {
	if rnd.IntN(2) == 0 {
		return []uint64{0, 1, 2, math.MaxInt32, math.MaxUint32, math.MaxUint32 + 1, math.MaxInt64 - 1, api.Endless, 1 << 63, api.Unreached - 1, api.Unreached}[rnd.IntN(11)]
	}
	return rnd.Uint64()
}

func anyState(rnd *rand.Rand) (s api.State) {
	for i := range s {
		s[i] = anyWord(rnd)
	}
	return s
}

// P0.1, P13.8: whatever the methods are given, they answer, the same each time; no error but SSSP's ErrBeyond, and beside that zeros.
func TestWhateverIsGiven(t *testing.T) {
	rnd := rand.New(rand.NewPCG(2, 13))
	beyond := 0
	for range 20000 {
		name := names[rnd.IntN(4)]
		p := anyKernel(rnd, name, 3).flow(t)
		f := anyState(rnd)
		c, agg, s, v := api.Ctl(f[:4]), anyState(rnd), anyState(rnd), uint32(f[4])
		edge, back := api.Edge{Src: uint32(f[5]), Dst: uint32(f[6]), W: uint32(f[7])}, rnd.IntN(2) == 0
		a, b, send, e := p.Scatter(c, s, edge, back)
		if a2, b2, send2, e2 := p.Scatter(c, s, edge, back); a2 != a || b2 != b || send2 != send || e2 != e {
			t.Fatalf("%s: Scatter is not the same twice", name)
		}
		if !send && (a != 0 || b != 0) || e != api.OK && send {
			t.Fatalf("%s: Scatter: %d %d %v %d", name, a, b, send, e)
		}
		if e != api.OK && (name != "sssp" || e != api.ErrBeyond) {
			t.Fatalf("%s: Scatter: %d", name, e)
		}
		if e == api.ErrBeyond {
			beyond++
		}
		_, e1 := p.Start(v, api.Degrees{Out: agg[1], In: agg[2]})
		next, changed, e2 := p.Apply(c, agg, v, s)
		_, e3 := p.Fold(c, agg, v, s)
		_, _, e4 := p.Turn(c, agg, agg[1], int(agg[2]))
		if e1 != api.OK || e2 != api.OK || e3 != api.OK || e4 != api.OK {
			t.Fatalf("%s: %d %d %d %d", name, e1, e2, e3, e4)
		}
		if again, twice, _ := p.Apply(c, agg, v, s); again != next || twice != changed {
			t.Fatalf("%s: Apply is not the same twice", name)
		}
	}
	if beyond < 20 {
		t.Errorf("too little was tried: %d", beyond)
	}
}

// Over graphs that have more vertices or fewer than n each run ends, or comes to its cap; no one panics.
func TestOverAnotherGraph(t *testing.T) {
	rnd := rand.New(rand.NewPCG(3, 13))
	for range 400 {
		k := anyKernel(rnd, names[rnd.IntN(4)], 20)
		p := k.flow(t)
		other := anyKernel(rnd, k.name, 40)
		if _, _, e := wheel.Memory(other.n, true, other.edges, p, 200, 1); e != api.OK {
			t.Fatalf("%s of %d vertices over %d: %d", k.name, k.n, other.n, e)
		}
	}
}

// What a vertex has come to it sends once along each edge, and nothing behind the verdict: DOC.md's rounds go on till nothing changes, and no longer.
func TestNewsIsSentOnce(t *testing.T) {
	for _, row := range []struct {
		what string
		k    kernel
		want api.Stats
	}{
		{"example 2", kernel{name: "reach", n: 5, edges: few, sources: []uint32{2, 0}}, api.Stats{Rounds: 3, Edges: 12, Updates: 4, Changed: 2}},
		{"labels along a way", kernel{name: "wcc", n: 3, edges: chain(3)}, api.Stats{Rounds: 3, Edges: 12, Updates: 8, Changed: 3}},
		{"example 4", sssp(3, detour...), api.Stats{Rounds: 3, Edges: 9, Updates: 3, Changed: 3}},
		{"distances along a way", sssp(9, chain(9)...), api.Stats{Rounds: 9, Edges: 72, Updates: 8, Changed: 8}},
		{"a cycle below zero", sssp(1, api.Edge{W: less(1)}), api.Stats{Rounds: 2, Edges: 2, Updates: 1, Changed: 2}},
	} {
		if _, stats, _ := row.k.run(t); stats != row.want {
			t.Errorf("%s: %v, want %v", row.what, stats, row.want)
		}
	}
}
