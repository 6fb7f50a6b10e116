package audit_test

import (
	"testing"

	"sluice/api"
	"sluice/audit"
	"sluice/sieve"
)

// told holds a verdict against the one that is asked for.
func told(t *testing.T, what string, v api.Verdict, e api.Errno, want api.Verdict) {
	t.Helper()
	if e != api.OK || v != want {
		t.Errorf("%s: %+v, %d, want %+v", what, v, e, want)
	}
}

// wrong tells a verdict.
func wrong(v uint32, rule int) api.Verdict { return api.Verdict{Vertex: v, Rule: rule} }

// The chapter's examples.
func TestExamples(t *testing.T) {
	way := sieve.Feed(between(0, 1, 1, 2), api.OK)
	for _, row := range []struct {
		last api.State
		want api.Verdict
	}{
		{api.State{2, 1}, right},
		{api.State{2, 0}, wrong(2, 4)},
		{api.State{1, 1}, wrong(2, 3)},
		{api.State{none, none}, wrong(2, 2)},
	} {
		v, e := audit.Levels(3, 0, way, []api.State{{0, 0}, {1, 0}, row.last}, make([]uint64, 6))
		told(t, "example 1", v, e, row.want)
	}
	v, e := audit.Labels(3, way, []api.State{{0}, {0}, {1}}, make([]uint64, 3))
	told(t, "example 2", v, e, wrong(2, 1))
	v, e = audit.Independent(plain(3), way, []api.State{{1}, {0}, {1}}, make([]uint64, 3))
	told(t, "example 3", v, e, right)
	v, e = audit.Independent(plain(3), way, []api.State{{0}, {1}, {0}}, make([]uint64, 3))
	told(t, "example 3", v, e, wrong(0, 3))
	v, e = audit.Sccs(2, sieve.Feed(between(0, 1, 1, 0), api.OK), []api.State{{0}, {1}}, make([]uint64, 4))
	told(t, "example 4", v, e, wrong(0, 3))
	v, e = audit.Sccs(2, sieve.Feed(between(0, 1), api.OK), []api.State{{0}, {0}}, make([]uint64, 4))
	told(t, "example 4", v, e, wrong(1, 2))
	five := sieve.Feed(weighed(0, 1, 5), api.OK)
	for _, row := range []struct {
		last api.State
		want api.Verdict
	}{
		{api.State{5, 0, 1}, right},
		{api.State{5, 0, 0}, wrong(1, 4)},
		{api.State{4, 0, 1}, wrong(1, 4)},
		{api.State{6, 0, 1}, wrong(1, 3)},
	} {
		v, e := audit.Distances(2, 0, api.ECounted, five, []api.State{{0, 0, 0}, row.last}, make([]uint64, 2))
		told(t, "example 5", v, e, row.want)
	}
}

// The examples of chapters 13 to 16, as results that are right.
func TestExamplesOfTheKernels(t *testing.T) {
	flow := between(0, 1, 0, 2, 2, 1, 1, 3)
	tail := between(0, 1, 1, 2, 2, 0, 2, 3)
	ring := between(0, 1, 1, 2, 2, 0, 2, 3, 3, 4)
	triangle := between(3, 1, 1, 0, 3, 0)
	two := kernelOf("Reached", 5, flow...)
	two.sources = []uint32{2, 0}
	behind := kernelOf("Independent", 4, between(0, 1, 1, 2, 2, 3)...)
	behind.order.C = 2
	pages := kernelOf("Ranks", 2, between(0, 1)...)
	pages.rounds = 2
	cancelled := kernelOf("Products", 2, api.Edge{Src: 0, Dst: 1, W: 0x40000000}, api.Edge{Src: 0, Dst: 1, W: 0xc0000000})
	cancelled.kind = api.EReal
	for _, row := range []struct {
		kernel
		states []api.State
	}{
		{kernelOf("Levels", 5, flow...), []api.State{{0, 0}, {1, 0}, {1, 0}, {2, 1}, {none, none}}},
		{two, []api.State{{0, 0}, {1, 0}, {0, 2}, {2, 0}, {none, none}}},
		{kernelOf("Labels", 4, between(3, 1, 2, 2)...), []api.State{{0}, {1}, {2}, {1}}},
		{kernelOf("Distances", 3, weighed(0, 1, 5, 0, 2, 2, 2, 1, -1)...), []api.State{{0}, {1, 0, 2}, {2, 0, 1}}},
		{kernelOf("Distances", 3, weighed(0, 1, 5, 0, 2, 2, 2, 1, -1, 1, 0, -4)...), []api.State{{7, 1}, {8, 1, 9}, {none, 1, none}}},
		{kernelOf("Distances", 2, weighed(1, 1, -1)...), []api.State{{0}, {api.Endless}}},
		{kernelOf("Independent", 4, between(0, 1, 1, 2, 2, 3)...), []api.State{{1}, {0}, {1}, {0}}},
		{behind, []api.State{{1}, {0}, {1}, {0}}},
		{kernelOf("Coloured", 4, between(0, 1, 1, 2, 2, 3)...), []api.State{{0}, {1}, {0}, {1}}},
		{kernelOf("Coloured", 3, between(0, 1, 1, 2, 2, 0)...), []api.State{{0}, {1}, {2}}},
		{kernelOf("Cores", 4, tail...), []api.State{{2}, {2}, {2}, {1}}},
		{kernelOf("Cores", 2, between(0, 1, 0, 1)...), []api.State{{2}, {2}}},
		{kernelOf("Cores", 1, between(0, 0)...), []api.State{{0}}},
		{pages, []api.State{{6: 0x3ed00000}, {6: 0x3f180000}}},
		{cancelled, []api.State{{7: 0}, {7: 0}}},
		{kernelOf("Crossings", 1, between(0, 0)...), []api.State{{0}}},
		{kernelOf("Sccs", 5, ring...), []api.State{{0}, {0}, {0}, {3}, {4}}},
		{kernelOf("TopoLevels", 5, ring...), []api.State{{none}, {none}, {none}, {none}, {none}}},
		{kernelOf("TwoColours", 5, ring...), []api.State{{2}, {2}, {2}, {2}, {2}}},
		{kernelOf("Sccs", 4, triangle...), []api.State{{0}, {1}, {2}, {3}}},
		{kernelOf("TopoLevels", 4, triangle...), []api.State{{2}, {1}, {0}, {0}}},
		{kernelOf("TwoColours", 4, triangle...), []api.State{{2}, {2}, {0}, {2}}},
		{kernelOf("Sccs", 2, between(0, 1, 1, 0, 0, 1)...), []api.State{{0}, {0}}},
		{kernelOf("TwoColours", 2, between(0, 1, 1, 0, 0, 1)...), []api.State{{0}, {1}}},
		{kernelOf("TopoLevels", 1, between(0, 0)...), []api.State{{none}}},
		{kernelOf("TwoColours", 1, between(0, 0)...), []api.State{{2}}},
	} {
		if v := row.verdict(t, row.states); v != right {
			t.Errorf("%+v of %v: %+v", row.kernel, row.states, v)
		}
		if l := row.model(t)(row.states); len(l) > 0 || !row.meaning(t)(row.states) {
			t.Errorf("%+v of %v: the model says %v", row.kernel, row.states, l)
		}
	}
}
