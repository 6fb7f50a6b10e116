package peels_test

import (
	"math"
	"math/bits"
	"math/rand/v2"
	"sync"
	"testing"

	"sluice/api"
	"sluice/peels"
	"sluice/wheel"
)

// A Peel is an api.Program.
var _ api.Program = (*peels.Peel)(nil)

// by is the order of these tests: the priorities of 0 to 4 are 3, 0, 2, 4, 1.
var by = api.Rank{N: 5, A: 2, C: 3}

// set, colour and core make the programs, in that order.
func set(t *testing.T) *peels.Peel    { return kernel{name: "set", order: by}.peel(t) }
func colour(t *testing.T) *peels.Peel { return kernel{name: "colour", order: by}.peel(t) }
func core(t *testing.T) *peels.Peel   { return kernel{name: "core", order: by}.peel(t) }

// P14.3: Words, Both and Sink.
func TestWhatIsKept(t *testing.T) {
	for _, p := range []*peels.Peel{set(t), colour(t)} {
		if p.Words() != 4 || !p.Both() || p.Sink() != (api.Sink{A: 2, MonA: api.MonMin, B: 3, MonB: api.MonOr}) {
			t.Errorf("P14.3: %d %v %v", p.Words(), p.Both(), p.Sink())
		}
	}
	if p := core(t); p.Words() != 5 || !p.Both() || p.Sink() != (api.Sink{A: 3, MonA: api.MonAdd, B: 4, MonB: api.MonAdd}) {
		t.Errorf("P14.3: %d %v %v", p.Words(), p.Both(), p.Sink())
	}
	for _, name := range names {
		if _, _, e := wheel.Memory(5, false, nil, kernel{name: name, order: by}.peel(t), 9, 1); e != api.ErrBack {
			t.Errorf("P14.3: %s without back edges: %d", name, e)
		}
	}
}

// P14.3: of a nil Peel, and of one that no call has made: ErrNil where there is an error to answer, else zero.
func TestNoPeel(t *testing.T) {
	for what, p := range map[string]*peels.Peel{"nil": nil, "a zero one": new(peels.Peel)} {
		if p.Words() != 0 || p.Both() || p.Sink() != (api.Sink{}) {
			t.Errorf("P14.3: %s: %d %v %v", what, p.Words(), p.Both(), p.Sink())
		}
		c, s := api.Ctl{1, 2, 3, 4}, api.State{1, 0, 3, 4, 5, 6, 7, 8}
		if got, e := p.Start(3, api.Degrees{Out: 1, In: 2}); got != (api.State{}) || e != api.ErrNil {
			t.Errorf("P14.3: %s: Start: %v %d", what, got, e)
		}
		if a, b, send, e := p.Scatter(c, s, api.Edge{Src: 1, Dst: 2, W: 3}, true); a != 0 || b != 0 || send || e != api.ErrNil {
			t.Errorf("P14.3: %s: Scatter: %d %d %v %d", what, a, b, send, e)
		}
		if got, changed, e := p.Apply(c, s, 3, s); got != (api.State{}) || changed || e != api.ErrNil {
			t.Errorf("P14.3: %s: Apply: %v %v %d", what, got, changed, e)
		}
		if got, e := p.Fold(c, s, 3, s); got != (api.State{}) || e != api.ErrNil {
			t.Errorf("P14.3: %s: Fold: %v %d", what, got, e)
		}
		if got, done, e := p.Turn(c, s, 3, 4); got != (api.Ctl{}) || done || e != api.ErrNil {
			t.Errorf("P14.3: %s: Turn: %v %v %d", what, got, done, e)
		}
		if _, _, e := wheel.Memory(1, true, nil, p, 1, 1); e != api.ErrProgram {
			t.Errorf("P14.3: %s: run: %d", what, e)
		}
	}
}

// P14.3: Start: degrees are not looked at by Set and Colour, vertices not by Core.
func TestStart(t *testing.T) {
	for _, v := range []uint32{0, 1, 4, 5, 6, api.MaxVertices, math.MaxUint32} {
		for _, d := range []api.Degrees{{}, {Out: 3, In: 4}, {Out: none}, {In: none}, {Out: none, In: 2}, {Out: 1 << 63, In: 1 << 63}} {
			want, wrong := api.State{0, 0, none, 0}, api.OK
			if v >= 5 {
				want, wrong = api.State{}, api.ErrArg
			}
			for _, p := range []*peels.Peel{set(t), colour(t)} {
				if s, e := p.Start(v, d); s != want || e != wrong {
					t.Errorf("P14.3: Start(%d, %v): %v, %d", v, d, s, e)
				}
			}
			if s, e := core(t).Start(v, d); s != (api.State{0, 0, d.Out + d.In}) || e != api.OK {
				t.Errorf("P14.3: Core's Start(%d, %v): %v, %d", v, d, s, e)
			}
		}
	}
}

// sent is what Scatter answers.
type sent struct {
	a, b uint64
	send bool
	err  api.Errno
}

func scatter(p *peels.Peel, c api.Ctl, s api.State, e api.Edge, back bool) (out sent) {
	out.a, out.b, out.send, out.err = p.Scatter(c, s, e, back)
	return out
}

// P14.3: Scatter of Set and Colour, forwards and backwards, at a loop, of vertices that are none.
func TestScatterByOrder(t *testing.T) {
	busy := api.Ctl{1, none, 2, 3} // the ctl is not looked at
	for _, row := range []struct {
		what   string
		s      api.State
		e      api.Edge
		back   bool
		set    sent
		colour sent
	}{
		{"waits", api.State{}, api.Edge{Src: 0, Dst: 2}, false, sent{3, 0, true, api.OK}, sent{3, 0, true, api.OK}},
		{"waits, backwards", api.State{}, api.Edge{Src: 0, Dst: 2}, true, sent{2, 0, true, api.OK}, sent{2, 0, true, api.OK}},
		{"waits, and is the first", api.State{}, api.Edge{Src: 1, Dst: 0}, false, sent{0, 0, true, api.OK}, sent{0, 0, true, api.OK}},
		{"waits, other words", api.State{9, 0, 9, 9, 9, 9, 9, 9}, api.Edge{Src: 3, Dst: 4, W: 9}, false, sent{4, 0, true, api.OK}, sent{4, 0, true, api.OK}},
		{"waits, to a vertex that is none", api.State{}, api.Edge{Src: 4, Dst: 5}, false, sent{1, 0, true, api.OK}, sent{1, 0, true, api.OK}},
		{"waits, is none", api.State{}, api.Edge{Src: 5, Dst: 4}, false, sent{err: api.ErrArg}, sent{err: api.ErrArg}},
		{"waits, is none, backwards", api.State{}, api.Edge{Src: 4, Dst: 5}, true, sent{err: api.ErrArg}, sent{err: api.ErrArg}},
		{"waits, is none by far", api.State{}, api.Edge{Src: math.MaxUint32}, false, sent{err: api.ErrArg}, sent{err: api.ErrArg}},
		{"a loop", api.State{}, api.Edge{Src: 2, Dst: 2}, false, sent{}, sent{}},
		{"a loop, backwards", api.State{}, api.Edge{Src: 2, Dst: 2}, true, sent{}, sent{}},
		{"a loop of a vertex that is none", api.State{}, api.Edge{Src: 5, Dst: 5}, false, sent{}, sent{}},
		{"a loop of one that has news", api.State{1, 1}, api.Edge{Src: 2, Dst: 2}, false, sent{}, sent{}},
		{"news", api.State{1, 1}, api.Edge{Src: 0, Dst: 2}, false, sent{none, 1, true, api.OK}, sent{none, 2, true, api.OK}},
		{"news, backwards", api.State{1, 1}, api.Edge{Src: 0, Dst: 2}, true, sent{none, 1, true, api.OK}, sent{none, 2, true, api.OK}},
		{"news of 0", api.State{0, 1, 8, 8, 8, 8, 8, 8}, api.Edge{Src: 0, Dst: 2}, false, sent{none, 1, true, api.OK}, sent{none, 1, true, api.OK}},
		{"news of 63", api.State{63, 1}, api.Edge{Src: 0, Dst: 2}, false, sent{none, 1, true, api.OK}, sent{none, 1 << 63, true, api.OK}},
		{"news of 64", api.State{64, 1}, api.Edge{Src: 0, Dst: 2}, false, sent{none, 1, true, api.OK}, sent{none, 1, true, api.OK}},
		{"news of 2^64 - 2", api.State{none - 1, 1}, api.Edge{Src: 0, Dst: 2}, false, sent{none, 1, true, api.OK}, sent{none, 1 << 62, true, api.OK}},
		{"news of a vertex that is none", api.State{3, 1}, api.Edge{Src: 9, Dst: 2}, false, sent{none, 1, true, api.OK}, sent{none, 8, true, api.OK}},
		{"told", api.State{1, 2}, api.Edge{Src: 0, Dst: 2}, false, sent{}, sent{}},
		{"told, backwards", api.State{1, 2}, api.Edge{Src: 0, Dst: 2}, true, sent{}, sent{}},
		{"told, is none", api.State{1, 2}, api.Edge{Src: 9, Dst: 2}, false, sent{}, sent{}},
		{"told, by 3", api.State{1, 3}, api.Edge{Src: 0, Dst: 2}, false, sent{}, sent{}},
		{"told, by 2^64 - 1", api.State{1, none}, api.Edge{Src: 9, Dst: 2}, true, sent{}, sent{}},
		{"told, by 2^32", api.State{1, 1 << 32}, api.Edge{Src: 0, Dst: 2}, true, sent{}, sent{}},
	} {
		for _, c := range []api.Ctl{{}, busy} {
			if got := scatter(set(t), c, row.s, row.e, row.back); got != row.set {
				t.Errorf("P14.3: Set's Scatter: %s: %v, want %v", row.what, got, row.set)
			}
			if got := scatter(colour(t), c, row.s, row.e, row.back); got != row.colour {
				t.Errorf("P14.3: Colour's Scatter: %s: %v, want %v", row.what, got, row.colour)
			}
		}
	}
}

// P14.3: Scatter of Core: loops tell in the first round, whatever their state; others when they are taken away.
func TestScatterOfCore(t *testing.T) {
	for _, back := range []bool{false, true} {
		for _, word1 := range []uint64{0, 1, 2, 3, 1 << 32, none} {
			for _, c := range []api.Ctl{{}, {0, 7, 8, 9}, {1}, {2}, {none, 1}} {
				s := api.State{9, word1, 9, 9, 9, 9, 9, 9}
				loop, edge := sent{}, sent{}
				if c[0] == 0 {
					loop = sent{0, 1, true, api.OK}
				}
				if word1 == 1 {
					edge = sent{1, 0, true, api.OK}
				}
				if got := scatter(core(t), c, s, api.Edge{Src: 3, Dst: 3}, back); got != loop {
					t.Errorf("P14.3: Core's Scatter at a loop: %v %d %v: %v", c, word1, back, got)
				}
				if got := scatter(core(t), c, s, api.Edge{Src: 3, Dst: math.MaxUint32, W: 5}, back); got != edge {
					t.Errorf("P14.3: Core's Scatter: %v %d %v: %v", c, word1, back, got)
				}
			}
		}
	}
}

// applied is what Apply answers.
type applied struct {
	s       api.State
	changed bool
	err     api.Errno
}

func apply(p *peels.Peel, c api.Ctl, agg api.State, v uint32, s api.State) (out applied) {
	out.s, out.changed, out.err = p.Apply(c, agg, v, s)
	return out
}

// P14.3: Apply of Set. Vertex 2 has priority 2.
func TestApplyOfSet(t *testing.T) {
	in, out, waits := api.State{1, 1, none}, api.State{0, 2, none}, api.State{2: none}
	for _, row := range []struct {
		what string
		v    uint32
		s    api.State
		want applied
	}{
		{"below", 2, api.State{0, 0, 3, 0}, applied{in, true, api.OK}},
		{"no one waits", 2, api.State{0, 0, none, 0}, applied{in, true, api.OK}},
		{"the same", 2, api.State{0, 0, 2, 0}, applied{waits, false, api.OK}},
		{"above", 2, api.State{0, 0, 1, 0}, applied{waits, false, api.OK}},
		{"the first of all, at 0", 1, api.State{0, 0, 0, 0}, applied{waits, false, api.OK}},
		{"the first of all", 1, api.State{0, 0, 1, 0}, applied{in, true, api.OK}},
		{"a neighbour is in", 2, api.State{0, 0, none, 1}, applied{out, true, api.OK}},
		{"a neighbour is in, others wait", 2, api.State{0, 0, 0, 1}, applied{out, true, api.OK}},
		{"any word 3", 2, api.State{0, 0, 3, 1 << 63}, applied{out, true, api.OK}},
		{"waits, other words", 2, api.State{9, 0, 2, 0, 9, 9, 9, 9}, applied{waits, false, api.OK}},
		{"in, other words", 2, api.State{9, 0, 3, 0, 9, 9, 9, 9}, applied{in, true, api.OK}},
		{"out, other words", 2, api.State{9, 0, 3, 6, 9, 9, 9, 9}, applied{out, true, api.OK}},
		{"in, not told", 2, api.State{1, 1, 3, 1}, applied{api.State{1, 2, none}, false, api.OK}},
		{"not told, any word 0", 2, api.State{none, 1, 3, 1, 9, 9, 9, 9}, applied{api.State{none, 2, none}, false, api.OK}},
		{"decided", 2, api.State{1, 2, 3, 1, 9, 9, 9, 9}, applied{api.State{1, 2, none}, false, api.OK}},
		{"decided, out", 2, api.State{0, 2, 0, 0}, applied{out, false, api.OK}},
		{"by 3", 2, api.State{5, 3, 3, 0, 9}, applied{api.State{5, 2, none}, false, api.OK}},
		{"by 2^64 - 1", 4, api.State{1, none, 0, 7, 9}, applied{api.State{1, 2, none}, false, api.OK}},
		{"the last vertex", 4, api.State{0, 0, 2}, applied{in, true, api.OK}},
		{"just no vertex", 5, api.State{0, 0, none}, applied{err: api.ErrArg}},
		{"no vertex, not told", 5, api.State{1, 1, none}, applied{err: api.ErrArg}},
		{"no vertex, decided", math.MaxUint32, api.State{1, 2, none}, applied{err: api.ErrArg}},
		{"no vertex, by 3", 5, api.State{1, 3, none}, applied{err: api.ErrArg}},
	} {
		for _, agg := range []api.State{{}, {1, 2, 3, 4, 5, 6, 7, 8}} {
			if got := apply(set(t), api.Ctl{agg[3], 5}, agg, row.v, row.s); got != row.want {
				t.Errorf("P14.3: Set's Apply: %s: %v, want %v", row.what, got, row.want)
			}
		}
	}
}

// P14.3: Apply of Colour. Vertex 2 has priority 2.
func TestApplyOfColour(t *testing.T) {
	for _, row := range []struct {
		what string
		v    uint32
		s    api.State
		want applied
	}{
		{"below", 2, api.State{0, 0, 3, 0}, applied{api.State{0, 1, none}, true, api.OK}},
		{"no one waits", 2, api.State{0, 0, none, 1}, applied{api.State{1, 1, none, 1}, true, api.OK}},
		{"a gap", 2, api.State{0, 0, none, 0b10111}, applied{api.State{3, 1, none, 0b10111}, true, api.OK}},
		{"the lowest is free", 2, api.State{0, 0, none, none - 1}, applied{api.State{0, 1, none, none - 1}, true, api.OK}},
		{"the highest is free", 2, api.State{0, 0, none, none >> 1}, applied{api.State{63, 1, none, none >> 1}, true, api.OK}},
		{"none is free", 2, api.State{0, 0, 3, none}, applied{err: api.ErrColours}},
		{"none is free, no one waits", 2, api.State{0, 0, none, none}, applied{err: api.ErrColours}},
		{"none is free, but it waits", 2, api.State{0, 0, 2, none}, applied{api.State{0, 0, none, none}, false, api.OK}},
		{"none is free, but it has one", 2, api.State{7, 1, none, none}, applied{api.State{7, 2, none, none}, false, api.OK}},
		{"none is free, but it was told", 2, api.State{7, 2, none, none}, applied{api.State{7, 2, none, none}, false, api.OK}},
		{"none is free, by 3", 2, api.State{7, 3, none, none}, applied{api.State{7, 2, none, none}, false, api.OK}},
		{"the same", 2, api.State{0, 0, 2, 5}, applied{api.State{0, 0, none, 5}, false, api.OK}},
		{"above", 2, api.State{0, 0, 0, 5}, applied{api.State{0, 0, none, 5}, false, api.OK}},
		{"the first of all, at 0", 1, api.State{0, 0, 0, 5}, applied{api.State{0, 0, none, 5}, false, api.OK}},
		{"waits, other words", 2, api.State{9, 0, 1, 5, 9, 9, 9, 9}, applied{api.State{9, 0, none, 5}, false, api.OK}},
		{"coloured, other words", 2, api.State{9, 0, 3, 5, 9, 9, 9, 9}, applied{api.State{1, 1, none, 5}, true, api.OK}},
		{"coloured as it was", 2, api.State{1, 0, 3, 5}, applied{api.State{1, 1, none, 5}, true, api.OK}},
		{"not told", 2, api.State{none, 1, 3, 5, 9, 9, 9, 9}, applied{api.State{none, 2, none, 5}, false, api.OK}},
		{"told", 2, api.State{9, 2, 3, 5, 9, 9, 9, 9}, applied{api.State{9, 2, none, 5}, false, api.OK}},
		{"by 3", 2, api.State{9, 3, 3, 5, 9, 9, 9, 9}, applied{api.State{9, 2, none, 5}, false, api.OK}},
		{"by 2^64 - 1", 4, api.State{9, none, 0, 5}, applied{api.State{9, 2, none, 5}, false, api.OK}},
		{"just no vertex", 5, api.State{0, 0, none}, applied{err: api.ErrArg}},
		{"no vertex, none is free", 5, api.State{0, 0, none, none}, applied{err: api.ErrArg}},
		{"no vertex, not told", 5, api.State{1, 1, none}, applied{err: api.ErrArg}},
		{"no vertex, told", math.MaxUint32, api.State{1, 2, none}, applied{err: api.ErrArg}},
	} {
		for _, agg := range []api.State{{}, {1, 2, 3, 4, 5, 6, 7, 8}} {
			if got := apply(colour(t), api.Ctl{agg[3], 5}, agg, row.v, row.s); got != row.want {
				t.Errorf("P14.3: Colour's Apply: %s: %v, want %v", row.what, got, row.want)
			}
		}
	}
}

// P14.3: Apply of Core.
func TestApplyOfCore(t *testing.T) {
	for _, row := range []struct {
		what string
		c    api.Ctl
		s    api.State
		want applied
	}{
		{"the first round", api.Ctl{}, api.State{0, 0, 9, 0, 4}, applied{api.State{0, 0, 5}, true, api.OK}},
		{"the first round, no edges", api.Ctl{}, api.State{}, applied{api.State{}, true, api.OK}},
		{"the first round, word 1 of the ctl", api.Ctl{0, none}, api.State{7, 0, 9, 2, 4, 9, 9, 9}, applied{api.State{7, 0, 3}, true, api.OK}},
		{"the first round, below 0", api.Ctl{}, api.State{0, 0, 1, 1, 1}, applied{api.State{0, 0, none}, true, api.OK}},
		{"the first round, not told", api.Ctl{}, api.State{7, 1, 9, 0, 4}, applied{api.State{7, 2, 5}, false, api.OK}},
		{"the first round, told", api.Ctl{}, api.State{7, 2, 9, 0, 4}, applied{api.State{7, 2, 5}, false, api.OK}},
		{"as many", api.Ctl{1, 3}, api.State{0, 0, 5, 2}, applied{api.State{3, 1, 3}, true, api.OK}},
		{"fewer", api.Ctl{1, 3, 8, 8}, api.State{9, 0, 5, 3, 1, 9, 9, 9}, applied{api.State{3, 1, 1}, true, api.OK}},
		{"one more", api.Ctl{1, 3}, api.State{0, 0, 5, 1}, applied{api.State{0, 0, 4}, false, api.OK}},
		{"one more, other words", api.Ctl{1, 3, 8, 8}, api.State{9, 0, 6, 1, 1, 9, 9, 9}, applied{api.State{9, 0, 4}, false, api.OK}},
		{"none", api.Ctl{1, 0}, api.State{}, applied{api.State{0, 1, 0}, true, api.OK}},
		{"not below 0", api.Ctl{1, 3}, api.State{0, 0, 1, 2}, applied{api.State{0, 0, none}, false, api.OK}},
		{"not below 0, and all are taken", api.Ctl{1, none}, api.State{0, 0, 1, 1, 1}, applied{api.State{none, 1, none}, true, api.OK}},
		{"any word 0 of the ctl", api.Ctl{none, 3}, api.State{0, 0, 3}, applied{api.State{3, 1, 3}, true, api.OK}},
		{"not told", api.Ctl{1, 3}, api.State{2, 1, 5, 4, 3, 9}, applied{api.State{2, 2, none - 1}, false, api.OK}},
		{"told", api.Ctl{1, 3}, api.State{2, 2, 5, 1, 0, 9}, applied{api.State{2, 2, 4}, false, api.OK}},
		{"by 3", api.Ctl{1, 3}, api.State{2, 3, 5, 4}, applied{api.State{2, 2, 1}, false, api.OK}},
		{"by 2^64 - 1", api.Ctl{}, api.State{2, none, 5, 4}, applied{api.State{2, 2, 1}, false, api.OK}},
	} {
		for _, v := range []uint32{0, 5, math.MaxUint32} {
			if got := apply(core(t), row.c, api.State{uint64(v), 1, 2, 3}, v, row.s); got != row.want {
				t.Errorf("P14.3: Core's Apply: %s: %v, want %v", row.what, got, row.want)
			}
		}
	}
}

// P14.3: Fold. Words of the aggregate that are not named stay.
func TestFold(t *testing.T) {
	full := api.State{10, 20, 30, 40, 50, 60, 70, 80}
	for _, row := range []struct {
		what           string
		agg, s         api.State
		ordered, cored api.State
	}{
		{"the first that waits", api.State{}, api.State{0, 0, 7}, api.State{1}, api.State{1, 7}},
		{"fewer edges", full, api.State{9, 0, 19, 9}, api.State{11, 20, 30, 40, 50, 60, 70, 80}, api.State{11, 19, 30, 40, 50, 60, 70, 80}},
		{"as many", full, api.State{9, 0, 20, 9}, api.State{11, 20, 30, 40, 50, 60, 70, 80}, api.State{11, 20, 30, 40, 50, 60, 70, 80}},
		{"more", full, api.State{9, 0, none}, api.State{11, 20, 30, 40, 50, 60, 70, 80}, api.State{11, 20, 30, 40, 50, 60, 70, 80}},
		{"none", full, api.State{}, api.State{11, 20, 30, 40, 50, 60, 70, 80}, api.State{11, 0, 30, 40, 50, 60, 70, 80}},
		{"word 0 was 0", api.State{0, 20, 30}, api.State{0, 0, none}, api.State{1, 20, 30}, api.State{1, none, 30}},
		{"word 0 was 2^64 - 1", api.State{none, 20, none}, api.State{0, 0, 21}, api.State{0, 20, none}, api.State{0, 20, none}},
		{"news", full, api.State{9, 1, 2}, full, api.State{10, 20, 31, 40, 50, 60, 70, 80}},
		{"the first news", api.State{}, api.State{0, 1, 2}, api.State{}, api.State{2: 1}},
		{"told", full, api.State{9, 2, 2}, full, full},
		{"by 3", full, api.State{9, 3, 2}, full, full},
		{"by 2^64 - 1", full, api.State{9, none, 2}, full, full},
	} {
		for _, v := range []uint32{0, 4, 5, math.MaxUint32} { // vertices are not looked at
			for _, c := range []api.Ctl{{}, {1, 2, 3, 4}} {
				for _, p := range []*peels.Peel{set(t), colour(t)} {
					if got, e := p.Fold(c, row.agg, v, row.s); got != row.ordered || e != api.OK {
						t.Errorf("P14.3: Fold: %s: %v, %d, want %v", row.what, got, e, row.ordered)
					}
				}
				if got, e := core(t).Fold(c, row.agg, v, row.s); got != row.cored || e != api.OK {
					t.Errorf("P14.3: Core's Fold: %s: %v, %d, want %v", row.what, got, e, row.cored)
				}
			}
		}
	}
}

// P14.3: Turn. Neither how many vertices changed nor the round is looked at; when it is done the ctl stays.
func TestTurn(t *testing.T) {
	for _, row := range []struct {
		what   string
		c      api.Ctl
		agg    api.State
		next   api.Ctl // Core's; the others' is c
		isDone bool
	}{
		{"no one waits", api.Ctl{}, api.State{}, api.Ctl{}, true},
		{"no one waits, other words", api.Ctl{5, 6, 7, 8}, api.State{0, 9, 0, 9, 9, 9, 9, 9}, api.Ctl{5, 6, 7, 8}, true},
		{"no one waits, there is news", api.Ctl{1, 6, 7, 8}, api.State{0, 9, 3}, api.Ctl{1, 6, 7, 8}, true},
		{"the first round", api.Ctl{}, api.State{4, 9, 0, 1}, api.Ctl{1, 9}, false},
		{"the first round, 0 edges", api.Ctl{0, 6, 7, 8}, api.State{4, 0, 0, 1}, api.Ctl{1, 0, 7, 8}, false},
		{"the first round, fewer", api.Ctl{0, 6, 7, 8}, api.State{4, 5}, api.Ctl{1, 5, 7, 8}, false},
		{"the first round, there is news", api.Ctl{0, 6, 7, 8}, api.State{4, 9, 1}, api.Ctl{1, 6, 7, 8}, false},
		{"it rises", api.Ctl{1, 6, 7, 8}, api.State{none, 7, 0}, api.Ctl{1, 7, 7, 8}, false},
		{"it rises to the end", api.Ctl{9, 6, 7, 8}, api.State{1, none, 0, 9, 9, 9, 9, 9}, api.Ctl{1, none, 7, 8}, false},
		{"as many", api.Ctl{1, 6, 7, 8}, api.State{1, 6, 0}, api.Ctl{1, 6, 7, 8}, false},
		{"fewer", api.Ctl{none, 6, 7, 8}, api.State{1, 5, 0}, api.Ctl{1, 6, 7, 8}, false},
		{"there is news", api.Ctl{1, 6, 7, 8}, api.State{1, 7, 1}, api.Ctl{1, 6, 7, 8}, false},
		{"there is much news", api.Ctl{1, 6, 7, 8}, api.State{1, 7, none}, api.Ctl{1, 6, 7, 8}, false},
	} {
		for _, changed := range []uint64{0, 1, none} {
			for _, round := range []int{math.MinInt, 0, 1, math.MaxInt} {
				for _, p := range []*peels.Peel{set(t), colour(t)} {
					if got, done, e := p.Turn(row.c, row.agg, changed, round); got != row.c || done != row.isDone || e != api.OK {
						t.Errorf("P14.3: Turn: %s: %v, %v, %d", row.what, got, done, e)
					}
				}
				if got, done, e := core(t).Turn(row.c, row.agg, changed, round); got != row.next || done != row.isDone || e != api.OK {
					t.Errorf("P14.3: Core's Turn: %s: %v, %v, %d, want %v", row.what, got, done, e, row.next)
				}
			}
		}
	}
}

// P14.4: of any state.
func TestWhatStatesTell(t *testing.T) {
	rnd := rand.New(rand.NewPCG(3, 144))
	for range 2000 {
		s := anyState(rnd)
		if peels.InSet(s) != (s[0] == 1) || peels.ColourOf(s) != int(s[0]&63) || peels.CoreOf(s) != s[0] {
			t.Errorf("P14.4: %v: %v %d %d", s, peels.InSet(s), peels.ColourOf(s), peels.CoreOf(s))
		}
	}
	for _, row := range []struct {
		word   uint64
		in     bool
		colour int
	}{{0, false, 0}, {1, true, 1}, {2, false, 2}, {63, false, 63}, {64, false, 0}, {65, false, 1}, {1<<32 + 1, false, 1}, {1 << 63, false, 0}, {none, false, 63}} {
		s := api.State{row.word, 1, 1, 1, 1, 1, 1, 1}
		if peels.InSet(s) != row.in || peels.ColourOf(s) != row.colour || peels.CoreOf(s) != row.word {
			t.Errorf("P14.4: %v: %v %d %d", s, peels.InSet(s), peels.ColourOf(s), peels.CoreOf(s))
		}
	}
}

// chapter tells what Apply is to answer, read line by line.
func (k kernel) chapter(c api.Ctl, v uint32, s api.State) applied {
	one := min(s[1], 2)
	place, e := peels.Place(k.order, v)
	if k.name != "core" && e != api.OK {
		return applied{err: api.ErrArg}
	}
	first := one == 0 && uint64(place) < s[2]
	switch k.name {
	case "set":
		switch {
		case one != 0:
			return applied{api.State{s[0], 2, none}, false, api.OK}
		case s[3] != 0:
			return applied{api.State{0, 2, none}, true, api.OK}
		case first:
			return applied{api.State{1, 1, none}, true, api.OK}
		}
		return applied{api.State{0, 0, none}, false, api.OK}
	case "colour":
		switch {
		case first && s[3] == none:
			return applied{err: api.ErrColours}
		case first:
			return applied{api.State{uint64(bits.Len64((s[3]+1)&^s[3])) - 1, 1, none, s[3]}, true, api.OK}
		}
		return applied{api.State{s[0], []uint64{0, 2, 2}[one], none, s[3]}, false, api.OK}
	}
	left := s[2] - (s[3] + s[4])
	switch {
	case one != 0:
		return applied{api.State{s[0], 2, left}, false, api.OK}
	case c[0] != 0 && left <= c[1]:
		return applied{api.State{c[1], 1, left}, true, api.OK}
	}
	return applied{api.State{s[0], 0, left}, c[0] == 0, api.OK}
}

// P14.3: Apply at words at random, most of them at a bound, against a second reading; beside an error all is zero.
func TestApplyAtRandom(t *testing.T) {
	rnd := rand.New(rand.NewPCG(4, 143))
	count := map[api.Errno]int{}
	for i := range 60000 {
		k := kernel{name: names[i%3], order: anyOrder(rnd, 1+rnd.Uint32N(8))}
		f, s := anyState(rnd), anyState(rnd)
		s[1] = min(s[1], []uint64{0, 1, 2, none}[rnd.IntN(4)])
		v := uint32(f[4])
		if rnd.IntN(3) > 0 {
			v %= k.order.N
		}
		got := apply(k.peel(t), api.Ctl(f[:4]), f, v, s)
		if want := k.chapter(api.Ctl(f[:4]), v, s); got != want {
			t.Fatalf("P14.3: %s of %v: Apply(%v, %d, %v): %v, want %v", k.name, k.order, f[:4], v, s, got, want)
		}
		count[got.err]++
	}
	if count[api.OK] < 20000 || count[api.ErrArg] < 2000 || count[api.ErrColours] < 100 {
		t.Errorf("too little was tried: %v", count)
	}
}

// P14.3, P0.1: a Peel may be used by several goroutines, and answers the same each time.
func TestManyAtATime(t *testing.T) {
	for _, name := range names {
		k := anyKernel(rand.New(rand.NewPCG(5, 143)), name, 60)
		p := k.peel(t)
		want, stats, e := wheel.Memory(k.order.N, true, k.edges, p, k.most(), 1)
		var all sync.WaitGroup
		for range 8 {
			all.Go(func() {
				got, s, f := wheel.Memory(k.order.N, true, k.edges, p, k.most(), 4)
				if e != api.OK || f != api.OK || s != stats || len(got) != len(want) {
					t.Errorf("P14.3: %s: %v %d, want %v %d", name, s, f, stats, e)
				}
				for v := range got {
					if got[v] != want[v] {
						t.Errorf("P14.3: %s: vertex %d: %v, want %v", name, v, got[v], want[v])
					}
				}
			})
		}
		all.Wait()
	}
}
