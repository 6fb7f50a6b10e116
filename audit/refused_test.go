package audit_test

import (
	"math"
	"math/rand/v2"
	"slices"
	"testing"

	"sluice/api"
)

// errEdge is what edges come with in these tests; it is nobody's number.
const errEdge api.Errno = 777

// asking is a call that is made ready.
type asking struct {
	kernel
	tape   tape
	noTape bool // no edges are handed in
	states []api.State
	room   room
}

// ready tells a call of the function with which all is well.
func ready(t *testing.T, name string) asking {
	t.Helper()
	k := kernelOf(name, 4, between(0, 1, 1, 2, 2, 0, 3, 1, 3, 3)...)
	return asking{kernel: k, tape: tape{edges: k.edges}, states: k.result(t), room: roomFor(k.asked())}
}

// refuse makes the call, which must be refused; nothing that was handed in may have changed, but what the room holds.
func (a *asking) refuse(t *testing.T, what string, want api.Errno) {
	t.Helper()
	edges := a.tape.all()
	if a.noTape {
		edges = nil
	}
	states, sources := slices.Clone(a.states), slices.Clone(a.sources)
	v, e := a.call(edges, a.states, a.room)
	if e != want || v != (api.Verdict{}) {
		t.Errorf("P18.1: %s: %s: %+v, %d, want %d", a.name, what, v, e, want)
	}
	if !slices.Equal(states, a.states) || !slices.Equal(sources, a.sources) {
		t.Errorf("P18.1: %s: %s: what was handed in has changed", a.name, what)
	}
}

// fault is something that is wrong with a call; of two the one of the lesser step is told.
type fault struct {
	what string
	step int
	want api.Errno
	do   func(a *asking)
}

// The steps in which faults are told.
const (
	stepNil = iota
	stepArg
	stepMore // of a constructor that has an error behind ErrArg
	stepSizes
	stepRoom
	stepEdges
)

// vertexFaults tells those of the number of vertices.
func vertexFaults(name string) (l []fault) {
	want := api.ErrArg
	if name == "Independent" || name == "Coloured" {
		want = api.ErrOrderOf
	}
	for _, n := range []uint32{0, api.MaxVertices + 1, math.MaxUint32} {
		l = append(l, fault{"vertices that may not be", stepArg, want, func(a *asking) { a.n, a.order.N = n, n }})
	}
	return l
}

// makerFaults tells the others that a constructor finds.
func makerFaults(name string) (l []fault) {
	add := func(step int, want api.Errno, what string, do func(a *asking)) {
		l = append(l, fault{what, step, want, do})
	}
	switch name {
	case "Levels", "Reached", "Distances":
		for _, source := range []uint32{4, 5, math.MaxUint32} {
			add(stepMore, api.ErrSource, "a source that is no vertex", func(a *asking) { a.sources = []uint32{source} })
		}
	case "Independent", "Coloured":
		for _, r := range []api.Rank{{N: 4, A: 2}, {N: 4, A: 0}, {N: 4, A: 5}, {N: 4, A: 1, C: 4}, {}} {
			add(stepArg, api.ErrOrderOf, "no order", func(a *asking) { a.order = r })
		}
	case "Ranks":
		for _, damp := range []uint32{0, 1 << 31, 0x3f800000, 0x40000000, 0xbf000000, 0x7f800000, 0x7fc00000, math.MaxUint32} {
			add(stepMore, api.ErrDamp, "no damping", func(a *asking) { a.damp = damp })
		}
	}
	if name == "Reached" {
		add(stepMore, api.ErrSource, "no sources", func(a *asking) { a.sources = nil })
		add(stepMore, api.ErrSource, "empty sources", func(a *asking) { a.sources = []uint32{} })
		add(stepMore, api.ErrSource, "too many sources", func(a *asking) { a.sources = make([]uint32, api.MaxSources+1) })
		add(stepMore, api.ErrSource, "one of many", func(a *asking) { a.sources = append(make([]uint32, api.MaxSources-1), 4) })
	}
	if name == "Ranks" || name == "Registers" {
		for _, rounds := range []int{0, -1, math.MinInt, api.MaxRanked + 1, math.MaxInt} {
			add(stepArg, api.ErrArg, "rounds that may not be", func(a *asking) { a.rounds = rounds })
		}
	}
	if faceOf(name).kinds {
		for _, kind := range []api.EdgeKind{math.MinInt, -1, 0, 4, math.MaxInt} {
			add(stepArg, api.ErrArg, "no kind", func(a *asking) { a.kind = kind })
		}
	}
	if name == "Distances" {
		add(stepArg, api.ErrArg, "weights that are no integers", func(a *asking) { a.kind = api.EReal })
	}
	return l
}

// otherFaults tells those that no constructor finds, a wrong edge among them.
func otherFaults(name string) (l []fault) {
	l = []fault{
		{"no edges", stepNil, api.ErrNil, func(a *asking) { a.noTape = true }},
		{"no states", stepSizes, api.ErrSizes, func(a *asking) { a.states = nil }},
		{"empty states", stepSizes, api.ErrSizes, func(a *asking) { a.states = []api.State{} }},
		{"a state too few", stepSizes, api.ErrSizes, func(a *asking) { a.states = a.states[:3] }},
		{"a state too many", stepSizes, api.ErrSizes, func(a *asking) { a.states = append(a.states[:4:4], api.State{}) }},
		{"no room", stepRoom, api.ErrTight, func(a *asking) { a.room = room{} }},
		{"room that is short", stepRoom, api.ErrTight, func(a *asking) { a.room = a.room.first(4*faceOf(name).places - 1) }},
		{"an edge with an error", stepEdges, errEdge, func(a *asking) { a.tape.errs = map[int]api.Errno{0: errEdge} }},
		{"an edge to no vertex", stepEdges, api.ErrVertex, func(a *asking) { a.tape.edges = between(0, 4) }},
	}
	if name == "Products" {
		l = append(l, fault{"an edge of another kind", stepEdges, api.ErrWeight, func(a *asking) { a.kind, a.tape.edges = api.EReal, []api.Edge{{W: 0x7f800000}} }})
	}
	if name == "Distances" {
		l = append(l, fault{"an edge of another kind", stepEdges, api.ErrWeight, func(a *asking) { a.kind, a.tape.edges = api.EPlain, []api.Edge{{W: 1}} }})
	}
	return l
}

// P18.1: each fault by itself, and each two of which one is told ahead of the other. Edges are not gone over where a fault is told ahead of them.
func TestFaultsInTheirOrder(t *testing.T) {
	for _, f := range faces {
		a := ready(t, f.name)
		if v, e := a.call(a.tape.all(), a.states, a.room); v != right || e != api.OK {
			t.Fatalf("%s: %+v, %d", f.name, v, e)
		}
		all := slices.Concat(vertexFaults(f.name), makerFaults(f.name), otherFaults(f.name))
		for _, one := range all {
			a := ready(t, f.name)
			one.do(&a)
			a.refuse(t, one.what, one.want)
			if one.step != stepEdges && a.tape.passes > 0 {
				t.Errorf("P18.1: %s: %s: the edges were gone over", f.name, one.what)
			}
			for _, other := range all {
				if one.step >= other.step {
					continue
				}
				a := ready(t, f.name)
				other.do(&a)
				one.do(&a) // as the last, lest the other one undoes it
				a.refuse(t, one.what+", and "+other.what, one.want)
			}
		}
	}
}

// P18.1: vertices at 1, at MaxVertices and at one more; of so many there are no states here.
func TestVerticesAtTheirEnds(t *testing.T) {
	for _, f := range faces {
		if v := kernelOf(f.name, 1).verdict(t, kernelOf(f.name, 1).result(t)); v != right {
			t.Errorf("%s: one vertex: %+v", f.name, v)
		}
		for _, row := range []struct {
			n    uint32
			want api.Errno
		}{{1, api.ErrSizes}, {api.MaxVertices, api.ErrSizes}, {api.MaxVertices + 1, api.ErrArg}, {math.MaxUint32, api.ErrArg}, {0, api.ErrArg}} {
			a := ready(t, f.name)
			a.n, a.order = row.n, api.Rank{N: row.n}
			if row.n > 1 {
				a.order.A = 1
				a.sources = []uint32{row.n - 1}
			}
			if row.want == api.ErrArg && (f.name == "Independent" || f.name == "Coloured") {
				row.want = api.ErrOrderOf
			}
			a.refuse(t, "vertices at their ends", row.want)
		}
	}
}

// P18.1: what a constructor refuses is refused with its error, and nothing else.
func TestErrorsOfTheConstructors(t *testing.T) {
	for i, f := range faces {
		rnd := rand.New(rand.NewPCG(uint64(i), 188))
		for range 2000 {
			k := anyKernel(rnd, f.name, 9)
			sizes := []uint32{0, 1, 2, 5, api.MaxVertices - 1, api.MaxVertices, api.MaxVertices + 1, math.MaxUint32}
			k.n = sizes[rnd.IntN(8)]
			k.sources = nil
			for range 1 + rnd.IntN(3) {
				k.sources = append(k.sources, []uint32{0, 1, k.n - 1, k.n, k.n + 1, math.MaxUint32, rnd.Uint32()}[rnd.IntN(7)])
			}
			k.order = api.Rank{N: k.n, A: rnd.Uint32N(9), C: rnd.Uint32N(9)}
			k.kind = api.EdgeKind(rnd.IntN(6) - 1)
			k.damp = []uint32{0, 1, 0x3f7fffff, 0x3f800000, 0x3f000000, 0x7fc00000, rnd.Uint32()}[rnd.IntN(7)]
			k.rounds = []int{-1, 0, 1, 7, api.MaxRanked, api.MaxRanked + 1}[rnd.IntN(6)]
			_, want := k.program()
			if f.name == "Cores" && (k.n == 0 || k.n > api.MaxVertices) {
				want = api.ErrArg
			}
			if want == api.OK {
				want = api.ErrSizes
			}
			a := asking{kernel: k}
			a.refuse(t, "arguments at random", want)
		}
	}
}

// wrongEdge is one that a graph of four vertices may not have, and what is told of it.
type wrongEdge struct {
	edge api.Edge
	err  api.Errno // that comes with it
	want api.Errno
}

// wrongEdges tells some: with one fault, and with several, of which the first is told.
func wrongEdges(k kernel) (l []wrongEdge) {
	l = []wrongEdge{
		{api.Edge{Src: 1, Dst: 2}, errEdge, errEdge},
		{api.Edge{Src: 1, Dst: 2}, -1, -1},
		{api.Edge{Src: 4, Dst: 2}, api.OK, api.ErrVertex},
		{api.Edge{Src: 1, Dst: 4}, api.OK, api.ErrVertex},
		{api.Edge{Src: math.MaxUint32, Dst: math.MaxUint32}, api.OK, api.ErrVertex},
		{api.Edge{Src: 1, Dst: 1 << 31}, errEdge, errEdge},
	}
	for _, w := range wrongWeights(k) {
		l = append(l, wrongEdge{api.Edge{Src: 3, Dst: 3, W: w}, api.OK, api.ErrWeight})
		l = append(l, wrongEdge{api.Edge{Src: 3, Dst: 4, W: w}, api.OK, api.ErrVertex})
		l = append(l, wrongEdge{api.Edge{Src: 3, Dst: 3, W: w}, api.ErrIO, api.ErrIO})
		l = append(l, wrongEdge{api.Edge{Src: 4, Dst: 4, W: w}, api.ErrVertex, api.ErrVertex})
	}
	return l
}

// wrongWeights tells those that are none of the kernel's kind.
func wrongWeights(k kernel) []uint32 {
	switch {
	case !faceOf(k.name).kinds || k.kind == api.ECounted:
		return nil
	case k.kind == api.EPlain:
		return []uint32{1, 1 << 31, math.MaxUint32}
	}
	return []uint32{0x7f800000, 0xff800000, 0x7fc00000, 0x7f800001, math.MaxUint32}
}

// kindsOf tells the kinds that a function may be given; of one that is given none, any that its edges may have.
func kindsOf(name string) []api.EdgeKind {
	if name == "Distances" {
		return []api.EdgeKind{api.EPlain, api.ECounted}
	}
	return []api.EdgeKind{api.EPlain, api.ECounted, api.EReal}
}

// P18.1: the first wrong edge is told, whatever comes behind it, and there the edges are left.
func TestWrongEdges(t *testing.T) {
	for _, f := range faces {
		for _, kind := range kindsOf(f.name) {
			a := ready(t, f.name)
			a.kind = kind
			for _, one := range wrongEdges(a.kernel) {
				for _, other := range wrongEdges(a.kernel) {
					for at := range 3 {
						edges := slices.Clone(a.edges)
						edges[at], edges[at+2] = one.edge, other.edge
						a.tape = tape{edges: edges, errs: map[int]api.Errno{at: one.err, at + 2: other.err}}
						a.refuse(t, "a wrong edge", one.want)
						if a.tape.passes != 1 || a.tape.told != at+1 || !a.tape.left {
							t.Errorf("P18.1: %s: a wrong edge at %d: %d passes, %d edges, left %v", f.name, at, a.tape.passes, a.tape.told, a.tape.left)
						}
					}
				}
			}
		}
	}
}

// P18.1: a wrong edge is told, though the states alone show that the result is wrong; and it is told as the very last.
func TestWrongEdgesAndStates(t *testing.T) {
	for _, f := range faces {
		a := ready(t, f.name)
		a.states = slices.Repeat([]api.State{{none - 1, 7, 7, 7, 7, 7, none, none}}, 4)
		if v := a.verdict(t, a.states); v.Right {
			t.Fatalf("%s: %+v", f.name, v)
		}
		a.tape = tape{edges: append(slices.Clone(a.edges), between(0, 4)...)}
		a.refuse(t, "wrong states and a wrong edge", api.ErrVertex)
		a.tape = tape{edges: a.edges, errs: map[int]api.Errno{len(a.edges) - 1: errEdge}}
		a.refuse(t, "wrong states and an error", errEdge)
	}
}

// P18.1: weights that are of the kind, at their ends, are taken; where no kind is given they are not looked at.
func TestRightWeights(t *testing.T) {
	for _, f := range faces {
		for _, kind := range kindsOf(f.name) {
			weights := []uint32{0}
			if kind == api.ECounted || !f.kinds {
				weights = append(weights, 1, 1<<31, 1<<31-1, math.MaxUint32, 0x7fc00000)
			} else if kind == api.EReal {
				weights = append(weights, 1, 1<<31, 1<<31+1, 0x7f7fffff, 0xff7fffff, 0x3f800000)
			}
			for _, w := range weights {
				k := kernelOf(f.name, 2, api.Edge{Src: 0, Dst: 1, W: w})
				k.kind = kind
				if v := k.verdict(t, k.result(t)); v != right {
					t.Errorf("P18.1: %s, kind %d, the weight %x: %+v", f.name, kind, w, v)
				}
			}
		}
	}
}

// P18.1: an error that comes in a later pass is told as well, with no verdict.
func TestErrorsInLaterPasses(t *testing.T) {
	most := 0
	for _, f := range faces {
		k := kernelOf(f.name, 7, between(5, 4, 4, 3, 3, 2, 2, 1, 1, 0, 0, 6, 6, 6, 2, 4)...)
		states := map[string][]api.State{"right": k.result(t)}
		if f.name == "Distances" {
			states["below zero"] = slices.Repeat([]api.State{{1: 1}}, 7)
		}
		for what, s := range states {
			clean := &tape{edges: k.edges}
			want, e := k.call(clean.all(), s, roomFor(k.asked()))
			if e != api.OK {
				t.Fatal(f.name, e)
			}
			most = max(most, clean.passes)
			for pass := 1; pass <= clean.passes+1; pass++ {
				for i := range k.edges {
					a := asking{kernel: k, tape: tape{edges: k.edges, errs: map[int]api.Errno{i: errEdge}, from: pass}, states: s, room: roomFor(k.asked())}
					if pass > clean.passes {
						v, e := a.call(a.tape.all(), s, a.room)
						told(t, f.name+", "+what, v, e, want)
						continue
					}
					a.refuse(t, what+": an error in a later pass", errEdge)
					if a.tape.passes != pass || a.tape.told != i+1 || !a.tape.left {
						t.Errorf("P18.1: %s: an error in pass %d at %d: %d passes, %d edges", f.name, pass, i, a.tape.passes, a.tape.told)
					}
				}
			}
		}
	}
	if most < 3 {
		t.Errorf("no function has made more than %d passes: these tests tell nothing", most)
	}
}

// P18.4: as many sources as may be, one of them twice.
func TestManySources(t *testing.T) {
	k := kernelOf("Reached", 100, between(63, 64, 5, 64, 64, 70)...)
	k.sources = nil
	for v := range uint32(api.MaxSources - 1) {
		k.sources = append(k.sources, v+1)
	}
	k.sources = append(k.sources, 5)
	if v := k.verdict(t, k.result(t)); v != right {
		t.Errorf("P18.4: %+v", v)
	}
}
