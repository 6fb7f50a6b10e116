package audit_test

import (
	"slices"
	"testing"

	"sluice/api"
)

// at tells rules that are broken, by vertices and rules, two and two.
func at(numbers ...int) (l []broken) {
	for i := 0; i+1 < len(numbers); i += 2 {
		l = append(l, broken{uint32(numbers[i]), numbers[i+1]})
	}
	return l
}

// row is states over a graph, and all that is broken there, written out.
type row struct {
	kernel
	states []api.State
	broken []broken
}

func held(t *testing.T, rows []row) {
	t.Helper()
	for _, r := range rows {
		if l := r.model(t)(r.states); !slices.Equal(l, r.broken) || !isSorted(l) {
			t.Errorf("%+v of %d: the model says %v, the test %v", r.kernel, r.states, l, r.broken)
		}
		if v := r.verdict(t, r.states); v != verdictOf(r.broken) {
			t.Errorf("%+v of %d: %+v, want %+v", r.kernel, r.states, v, verdictOf(r.broken))
		}
	}
}

// P18.3: each rule by itself, two at one vertex, two at two vertices, words at their ends.
func TestLevels(t *testing.T) {
	way := kernelOf("Levels", 4, between(0, 1, 1, 2, 2, 3)...)
	from1 := way
	from1.sources = []uint32{1}
	fan := kernelOf("Levels", 5, between(0, 3, 0, 1, 3, 4, 1, 4, 1, 4)...) // 4 has the parents 1 and 3; 2 is not reached
	lone := kernelOf("Levels", 1, between(0, 0)...)
	held(t, []row{
		{way, []api.State{{0, 0}, {1, 0}, {2, 1}, {3, 2}}, nil},
		{way, []api.State{{0, 0, 9, 9, 9, 9, 9, 9}, {1, 0, none}, {2, 1, 7}, {3, 2, 5}}, nil},
		{from1, []api.State{{none, none}, {0, 1}, {1, 1}, {2, 2}}, nil},
		// The source.
		{lone, []api.State{{0, 0}}, nil},
		{lone, []api.State{{0, 1}}, at(0, 1)},
		{lone, []api.State{{0, none}}, at(0, 1)},
		{lone, []api.State{{1, 0}}, at(0, 1)},
		{lone, []api.State{{none, none}}, at(0, 1)},
		{lone, []api.State{{1 << 63, 0}}, at(0, 1)},
		{from1, []api.State{{none, none}, {0, 0}, {1, 1}, {2, 2}}, at(1, 1)},
		{way, []api.State{{1, 0}, {1, 0}, {2, 1}, {3, 2}}, at(0, 1, 0, 3, 1, 3)},
		// Another one.
		{from1, []api.State{{0, 0}, {0, 1}, {1, 1}, {2, 2}}, at(0, 1)},
		{from1, []api.State{{4, none}, {0, 1}, {1, 1}, {2, 2}}, at(0, 1)},
		{from1, []api.State{{5, 0}, {0, 1}, {1, 1}, {2, 2}}, at(0, 1)},
		{from1, []api.State{{none - 1, none}, {0, 1}, {1, 1}, {2, 2}}, at(0, 1)},
		{from1, []api.State{{1 << 63, none}, {0, 1}, {1, 1}, {2, 2}}, at(0, 1)},
		{from1, []api.State{{none, 0}, {0, 1}, {1, 1}, {2, 2}}, at(0, 1)},
		{from1, []api.State{{none, none - 1}, {0, 1}, {1, 1}, {2, 2}}, at(0, 1)},
		{from1, []api.State{{3, 3}, {0, 1}, {1, 1}, {2, 2}}, at(0, 3)},
		{from1, []api.State{{3, 4}, {0, 1}, {1, 1}, {2, 2}}, at(0, 1, 0, 3)},
		{from1, []api.State{{3, none}, {0, 1}, {1, 1}, {2, 2}}, at(0, 1, 0, 3)},
		{way, []api.State{{0, 0}, {1, 0}, {2, 1}, {3, 4}}, at(3, 1, 3, 4)},
		{way, []api.State{{0, 0}, {1, 0}, {2, 1}, {3, 1 << 63}}, at(3, 1, 3, 4)},
		// Rule 2.
		{way, []api.State{{0, 0}, {1, 0}, {2, 1}, {none, none}}, at(3, 2)},
		{way, []api.State{{0, 0}, {none, none}, {none, none}, {none, none}}, at(1, 2)},
		{way, []api.State{{0, 0}, {1, 0}, {none, none}, {3, 2}}, at(2, 2, 3, 3)},
		{way, []api.State{{0, 0}, {1, 0}, {3, 1}, {none, none}}, at(2, 2, 2, 3, 3, 2)},
		{way, []api.State{{0, 0}, {1, 0}, {4, 1}, {none, none}}, at(2, 1, 2, 2)},
		{way, []api.State{{0, 0}, {1, 0}, {2, 1}, {4, none}}, at(3, 1, 3, 2)},
		{from1, []api.State{{3, 2}, {5, 1}, {none, none}, {none, none}}, at(0, 3, 1, 1, 1, 2)},
		// Rule 3.
		{way, []api.State{{0, 0}, {1, 0}, {1, 1}, {2, 2}}, at(2, 3)},
		{from1, []api.State{{none, none}, {0, 1}, {1, 1}, {1, 2}}, at(3, 3)},
		{way, []api.State{{0, 0}, {1, 0}, {1, 1}, {1, 2}}, at(2, 3, 3, 3)},
		// Rule 4.
		{fan, []api.State{{0, 0}, {1, 0}, {none, none}, {1, 0}, {2, 1}}, nil},
		{fan, []api.State{{0, 0}, {1, 0}, {none, none}, {1, 0}, {2, 3}}, at(4, 4)},
		{fan, []api.State{{0, 0}, {1, 0}, {none, none}, {1, 0}, {2, 0}}, at(4, 4)},
		{fan, []api.State{{0, 0}, {1, 1}, {none, none}, {1, 4}, {2, 4}}, at(1, 4, 3, 4, 4, 4)},
		// Two at two vertices: the lesser one, whatever the rule.
		{fan, []api.State{{0, 0}, {1, 3}, {2, 2}, {0, 3}, {2, 1}}, at(1, 4, 2, 3, 3, 1, 4, 2)},
		{fan, []api.State{{0, 0}, {1, 0}, {2, 2}, {1, 0}, {4, 1}}, at(2, 3, 4, 2, 4, 3)},
	})
}

// P18.4: as Levels, with several sources and what they hand on.
func TestReached(t *testing.T) {
	k := kernelOf("Reached", 6, between(0, 2, 1, 2, 2, 3, 1, 4, 4, 3)...)
	k.sources = []uint32{1, 0, 1}
	back := kernelOf("Reached", 4, between(3, 2, 2, 1, 2, 0)...)
	back.sources = []uint32{3}
	held(t, []row{
		{k, []api.State{{0, 0}, {0, 1}, {1, 0}, {2, 0}, {1, 1}, {none, none}}, nil},
		{k, []api.State{{0, 0, 9}, {0, 1, 9}, {1, 0, 9}, {2, 0, 9}, {1, 1, 9}, {none, none, 9}}, nil},
		// Rule 1.
		{k, []api.State{{0, 1}, {0, 1}, {1, 1}, {2, 1}, {1, 1}, {none, none}}, at(0, 1)},
		{k, []api.State{{0, 0}, {0, 0}, {1, 0}, {2, 0}, {1, 0}, {none, none}}, at(1, 1)},
		{k, []api.State{{0, 0}, {1, 1}, {1, 0}, {2, 0}, {2, 1}, {none, none}}, at(1, 1, 1, 3)},
		{k, []api.State{{0, 0}, {0, 1}, {1, 0}, {2, 0}, {1, 1}, {0, 5}}, at(5, 1)},
		{k, []api.State{{0, 0}, {0, 1}, {1, 0}, {2, 0}, {1, 1}, {none, 0}}, at(5, 1)},
		{k, []api.State{{0, 0}, {0, 1}, {1, 0}, {2, 0}, {1, 1}, {6, none}}, at(5, 1)},
		{k, []api.State{{0, 0}, {0, 1}, {1, 0}, {2, 0}, {1, 1}, {5, 6}}, at(5, 1, 5, 3)},
		// Rule 2.
		{k, []api.State{{0, 0}, {0, 1}, {1, 0}, {none, none}, {1, 1}, {none, none}}, at(3, 2)},
		{k, []api.State{{0, 0}, {0, 1}, {1, 0}, {3, 0}, {1, 1}, {none, none}}, at(3, 2, 3, 3)},
		// Rule 3.
		{k, []api.State{{0, 0}, {0, 1}, {1, 0}, {1, 0}, {1, 1}, {none, none}}, at(3, 3)},
		{k, []api.State{{0, 0}, {0, 1}, {1, 0}, {2, 0}, {1, 1}, {5, 0}}, at(5, 3)},
		// Rule 4: what is handed on is the words 1, not the vertices.
		{k, []api.State{{0, 0}, {0, 1}, {1, 1}, {2, 1}, {1, 1}, {none, none}}, at(2, 4)},
		{k, []api.State{{0, 0}, {0, 1}, {1, 0}, {2, 2}, {1, 1}, {none, none}}, at(3, 4)},
		{k, []api.State{{0, 0}, {0, 1}, {1, 0}, {2, 1}, {1, 1}, {none, none}}, at(3, 4)},
		// What is handed on may be none, which is not the same as nothing handed on.
		{back, []api.State{{2, 0}, {2, 3}, {1, none}, {0, 3}}, at(0, 4, 1, 4, 2, 1, 2, 4)},
		{back, []api.State{{2, none}, {2, 3}, {1, none}, {0, 3}}, at(0, 1, 1, 4, 2, 1, 2, 4)},
		{back, []api.State{{2, 1}, {2, 1}, {1, 1 << 63}, {0, 3}}, at(0, 4, 1, 4, 2, 1, 2, 4)},
		{back, []api.State{{3, 0}, {2, 3}, {1, 3}, {0, 3}}, at(0, 2, 0, 3)},
	})
}

// P18.5.
func TestLabels(t *testing.T) {
	k := kernelOf("Labels", 7, between(5, 2, 6, 5, 4, 3, 3, 4, 1, 1, 2, 5)...)
	held(t, []row{
		{k, []api.State{{0}, {1}, {2}, {3}, {3}, {2}, {2}}, nil},
		{k, []api.State{{0, 9}, {1, 9}, {2, 9}, {3, 9}, {3, 9}, {2, 9}, {2, 9}}, nil},
		{k, []api.State{{0}, {1}, {2}, {3}, {3}, {2}, {5}}, at(6, 1)},
		{k, []api.State{{0}, {1}, {2}, {3}, {4}, {2}, {5}}, at(4, 1, 6, 1)},
		{k, []api.State{{0}, {0}, {0}, {0}, {0}, {0}, {0}}, at(1, 1, 2, 1, 3, 1, 4, 1, 5, 1, 6, 1)},
		{k, []api.State{{none}, {1}, {2}, {3}, {3}, {2}, {2}}, at(0, 1)},
		{k, []api.State{{7}, {1}, {2}, {3}, {3}, {2}, {2}}, at(0, 1)},
		{k, []api.State{{1 << 32}, {1}, {2}, {3}, {3}, {2}, {2}}, at(0, 1)},
		{k, []api.State{{0}, {1}, {2}, {3}, {1<<63 + 3}, {2}, {2}}, at(4, 1)},
		{kernelOf("Labels", 1), []api.State{{0}}, nil},
		{kernelOf("Labels", 1), []api.State{{1}}, at(0, 1)},
	})
}

// P18.6: what is said of cycles below zero.
func TestDistancesOfCycles(t *testing.T) {
	sink := kernelOf("Distances", 4, weighed(2, 1, 3, 1, 3, -2, 3, 1, 1)...) // 1 and 3 lie on a cycle of -1
	sink.sources = []uint32{2}
	level := kernelOf("Distances", 4, weighed(2, 1, 3, 1, 3, -2, 3, 1, 2)...) // of 0
	level.sources = []uint32{2}
	apart := kernelOf("Distances", 4, weighed(0, 2, -5, 1, 3, -2, 3, 1, 1)...) // not reached
	apart.sources = []uint32{2}
	loop := kernelOf("Distances", 1, weighed(0, 0, -1)...)
	zero := kernelOf("Distances", 1, weighed(0, 0, 0)...)
	plain := kernelOf("Distances", 2, between(0, 1, 1, 0)...)
	plain.kind = api.EPlain
	deep := kernelOf("Distances", 2, weighed(0, 1, -1<<31, 1, 0, -1<<31)...)
	held(t, []row{
		{sink, []api.State{{0, 1}, {0, 1}, {0, 1}, {0, 1}}, nil},
		{sink, []api.State{{none, 1, none}, {1 << 63, 1, 4}, {api.Endless, 1, none}, {3, 1, 3}}, nil},
		{sink, []api.State{{0, 1}, {0, 0}, {0, 1}, {0, 1}}, at(1, 1)},
		{sink, []api.State{{0, 1}, {0, 1}, {0, 1}, {0, 2}}, at(3, 1)},
		{sink, []api.State{{0, 1}, {0, 1}, {0, 1}, {0, 1 << 32}}, at(3, 1)},
		{sink, []api.State{{0, 1}, {0, 1}, {0, 0}, {0, 1}}, at(0, 1, 0, 4, 1, 1, 1, 4, 3, 1, 3, 3, 3, 4)},
		{level, []api.State{{0, 1}, {0, 1}, {0, 1}, {0, 1}}, at(2, 2)},
		{level, []api.State{{0, 1}, {0, 0}, {0, 1}, {0, none}}, at(1, 1, 2, 2, 3, 1)},
		{level, []api.State{{0, 1}, {0, 1}, {0, 1}, {0, 0}}, at(2, 2, 3, 1)},
		{apart, []api.State{{0, 1}, {0, 1}, {0, 1}, {0, 1}}, at(2, 2)},
		{loop, []api.State{{0, 1}}, nil},
		{loop, []api.State{{0, 0}}, at(0, 3)},
		{zero, []api.State{{0, 1}}, at(0, 2)},
		{zero, []api.State{{0, 0}}, nil},
		{plain, []api.State{{0, 1}, {0, 1}}, at(0, 2)},
		{plain, []api.State{{0, 0}, {1, 0, 1}}, nil},
		{deep, []api.State{{0, 1}, {0, 1}}, nil},
		// What is none of the two breaks rule 1 everywhere.
		{sink, []api.State{{0, 2}, {0, 2}, {0, 2}, {0, 2}}, at(0, 1, 0, 4, 1, 1, 1, 4, 2, 1, 3, 1, 3, 3, 3, 4)},
		{zero, []api.State{{0, none}}, at(0, 1)},
		{plain, []api.State{{0, 7}, {1, 0, 1}}, at(0, 1, 1, 1)},
		{plain, []api.State{{0, 7}, {1, 7, 1}}, at(0, 1, 1, 1)},
	})
}

// P18.6: distances, where no cycle is said to be below zero.
func TestDistancesOfWays(t *testing.T) {
	k := kernelOf("Distances", 5, weighed(3, 1, 5, 3, 2, 2, 2, 1, -1, 1, 2, 1, 4, 1, -9)...) // 1 and 2 lie on a cycle of 0
	k.sources = []uint32{3}
	const x = api.Endless
	pair := kernelOf("Distances", 3, weighed(0, 1, 0, 1, 2, 0, 2, 1, 0)...)
	held(t, []row{
		{k, []api.State{{x}, {1, 0, 2}, {2, 0, 1}, {0}, {x}}, nil},
		{k, []api.State{{x, 0, 0, 8}, {1, 0, none, 8}, {2, 0, none - 1, 8}, {0, 0, 0, 8}, {x, 0, 0, 8}}, nil},
		// Rule 1.
		{k, []api.State{{x}, {1, 1, 2}, {2, 0, 1}, {0}, {x}}, at(1, 1)},
		{k, []api.State{{x, 2}, {1, 0, 2}, {2, 0, 1}, {0}, {x}}, at(0, 1)},
		{k, []api.State{{x}, {1, 0, 2}, {2, 0, 1}, {0}, {x, 1 << 63}}, at(4, 1)},
		// Rule 2.
		{k, []api.State{{x, 0, 1}, {1, 0, 2}, {2, 0, 1}, {0}, {x}}, at(0, 2)},
		{k, []api.State{{x, 0, none}, {1, 0, 2}, {2, 0, 1}, {0}, {x}}, at(0, 2)},
		{k, []api.State{{x}, {1, 0, 3}, {2, 0, 2}, {0, 0, 1}, {x}}, at(3, 2)},
		{k, []api.State{{x}, {2, 0, 2}, {3, 0, 1}, {1, 0, 0}, {x}}, at(3, 2)},
		{k, []api.State{{x}, {0, 0, 2}, {1, 0, 1}, {less(1), 0, 0}, {x}}, at(3, 2)},
		{k, []api.State{{x}, {x, 0, 0}, {x, 0, 0}, {x, 0, 0}, {x}}, at(3, 2)},
		{k, []api.State{{x}, {x, 0, 1}, {x, 0, 0}, {x, 0, 1}, {x}}, at(1, 2, 3, 2)},
		// Rule 3.
		{k, []api.State{{x}, {1, 0, 2}, {x, 0, 0}, {0}, {x}}, at(1, 4, 2, 3)},
		{k, []api.State{{x}, {5, 0, 1}, {2, 0, 1}, {0}, {x}}, at(1, 3)},
		{k, []api.State{{x}, {x - 1, 0, 2}, {2, 0, 1}, {0}, {x}}, at(1, 3, 1, 4)},
		{k, []api.State{{x}, {1, 0, 2}, {2, 0, 1}, {0}, {0}}, at(1, 3, 4, 4)},
		// Rule 4.
		{k, []api.State{{x}, {1, 0, 1}, {2, 0, 1}, {0}, {x}}, at(1, 4)},
		{k, []api.State{{x}, {1, 0, 2}, {2, 0, 0}, {0}, {x}}, at(2, 4)},
		{k, []api.State{{x}, {0, 0, 2}, {1, 0, 1}, {0}, {x}}, at(2, 4)},
		{k, []api.State{{0, 0, 1}, {1, 0, 2}, {2, 0, 1}, {0}, {x}}, at(0, 4)},
		{k, []api.State{{0, 0, none}, {1, 0, 2}, {2, 0, 1}, {0}, {x}}, at(0, 4)},
		{k, []api.State{{x}, {1, 0, 2}, {2, 0, 1}, {0}, {1 << 62}}, at(4, 4)},
		{pair, []api.State{{0}, {0, 0, 2}, {0, 0, 3}}, nil},
		{pair, []api.State{{0}, {less(1), 0, 2}, {less(1), 0, 1}}, at(2, 4)},
		// Two at one vertex, and at two.
		{k, []api.State{{x, 1, 1}, {1, 0, 2}, {2, 0, 1}, {0}, {x}}, at(0, 1, 0, 2)},
		{k, []api.State{{x}, {6, 2, 0}, {2, 0, 1}, {0}, {x}}, at(1, 1, 1, 3, 1, 4)},
		{k, []api.State{{x}, {6, 0, 0}, {2, 0, 1}, {1, 0, 1}, {x, 0, 1}}, at(1, 3, 1, 4, 2, 4, 3, 2, 4, 2)},
		{k, []api.State{{0, 0, 1}, {1, 0, 2}, {2, 1, 1}, {0}, {x}}, at(0, 4, 2, 1)},
	})
}

// P18.6: sums are exact, at the ends of int64 and beyond.
func TestDistancesAtTheEnds(t *testing.T) {
	const x = api.Endless
	along := func(w int64) kernel {
		k := kernelOf("Distances", 3, weighed(1, 0, w)...)
		k.sources = []uint32{2}
		return k
	}
	const big = 1<<31 - 1
	held(t, []row{
		// A sum that is just Endless, and one that is beyond, leave a vertex unreached.
		{along(1), []api.State{{x}, {x - 1, 0, 1}, {0}}, at(1, 4)},
		{along(2), []api.State{{x}, {x - 1, 0, 1}, {0}}, at(1, 4)},
		{along(big), []api.State{{x}, {x - 1, 0, 1}, {0}}, at(1, 4)},
		{along(0), []api.State{{x}, {x - 1, 0, 1}, {0}}, at(0, 3, 1, 4)},
		{along(-1 << 31), []api.State{{x}, {x - 1, 0, 1}, {0}}, at(0, 3, 1, 4)},
		// Beyond the end it does not come around.
		{along(2), []api.State{{1 << 63, 0, 2}, {x - 1, 0, 1}, {0}}, at(0, 4, 1, 4)},
		{along(3), []api.State{{1<<63 + 1, 0, 2}, {x - 1, 0, 1}, {0}}, at(0, 4, 1, 4)},
		{along(big), []api.State{{5, 0, 2}, {x - 1, 0, 1}, {0}}, at(0, 4, 1, 4)},
		{along(-1), []api.State{{x - 2, 0, 2}, {x - 1, 0, 1}, {0}}, at(1, 4)},
		{along(-1), []api.State{{x - 1, 0, 2}, {x - 1, 0, 1}, {0}}, at(0, 3, 0, 4, 1, 4)},
		// The lower end.
		{along(0), []api.State{{1 << 63, 0, 2}, {1 << 63, 0, 1}, {0}}, at(1, 4)},
		{along(-1), []api.State{{1 << 63, 0, 2}, {1 << 63, 0, 1}, {0}}, at(0, 3, 0, 4, 1, 4)},
		{along(-1), []api.State{{x, 0, 0}, {1 << 63, 0, 1}, {0}}, at(0, 3, 1, 4)},
		{along(-1), []api.State{{x - 1, 0, 2}, {1 << 63, 0, 1}, {0}}, at(0, 3, 0, 4, 1, 4)},
		{along(-1 << 31), []api.State{{1<<63 - 1<<31, 0, 2}, {1 << 63, 0, 1}, {0}}, at(0, 3, 0, 4, 1, 4)},
		{along(-1 << 31), []api.State{{1 << 63, 0, 2}, {1<<63 + 1<<31, 0, 1}, {0}}, at(1, 4)},
		{along(1), []api.State{{1<<63 + 1, 0, 2}, {1 << 63, 0, 1}, {0}}, at(1, 4)},
		{along(1), []api.State{{0, 0, 2}, {none, 0, 1}, {0}}, at(1, 4)},
		{along(1), []api.State{{1, 0, 2}, {none, 0, 1}, {0}}, at(0, 3, 0, 4, 1, 4)},
		// Who is not reached leads nowhere.
		{along(-1), []api.State{{x - 1, 0, 2}, {x, 0, 0}, {0}}, at(0, 4)},
		{along(0), []api.State{{x}, {x}, {0}}, nil},
	})
}

// P18.7.
func TestIndependent(t *testing.T) {
	k := kernelOf("Independent", 5, between(0, 1, 1, 2, 3, 2, 4, 4, 1, 0)...)
	turned := k
	turned.order = api.Rank{N: 5, A: 4, C: 4} // the last comes first
	held(t, []row{
		{k, []api.State{{1}, {0}, {1}, {0}, {1}}, nil},
		{k, []api.State{{1, 9}, {0, 9}, {1, 9}, {0, 9}, {1, 9}}, nil},
		{turned, []api.State{{0}, {1}, {0}, {1}, {1}}, nil},
		// Rule 1.
		{k, []api.State{{1}, {0}, {1}, {0}, {2}}, at(4, 1)},
		{k, []api.State{{1}, {none}, {1}, {0}, {1}}, at(1, 1)},
		{k, []api.State{{1}, {0}, {1}, {1 << 63}, {1<<32 + 1}}, at(3, 1, 4, 1)},
		// Rule 2.
		{k, []api.State{{1}, {0}, {1}, {1}, {1}}, at(3, 2)},
		{k, []api.State{{1}, {1}, {0}, {1}, {1}}, at(1, 2)},
		{k, []api.State{{1}, {1}, {1}, {1}, {1}}, at(1, 2, 2, 2, 3, 2)},
		// Rule 3; a loop is no neighbour.
		{k, []api.State{{1}, {0}, {1}, {0}, {0}}, at(4, 3)},
		{k, []api.State{{0}, {1}, {0}, {1}, {1}}, at(0, 3)},
		{turned, []api.State{{1}, {0}, {1}, {0}, {1}}, at(3, 3)},
		{turned, []api.State{{0}, {1}, {1}, {1}, {1}}, at(1, 2, 2, 2)},
		// A word that is none of the two is not in.
		{k, []api.State{{3}, {1}, {0}, {1}, {1}}, at(0, 1)},
		{k, []api.State{{3}, {0}, {1}, {0}, {1}}, at(0, 1, 1, 3)},
		{k, []api.State{{1}, {0}, {0}, {1}, {5}}, at(2, 3, 4, 1)},
	})
}

// P18.8.
func TestColoured(t *testing.T) {
	k := kernelOf("Coloured", 5, between(0, 1, 2, 1, 0, 2, 3, 2, 4, 4, 2, 3)...)
	turned := k
	turned.order = api.Rank{N: 5, A: 4, C: 4} // the last comes first
	held(t, []row{
		{k, []api.State{{0}, {1}, {2}, {0}, {0}}, nil},
		{k, []api.State{{0, 9}, {1, 9}, {2, 9}, {0, 9}, {0, 9}}, nil},
		{turned, []api.State{{2}, {0}, {1}, {0}, {0}}, nil},
		// Rule 1.
		{k, []api.State{{0}, {1}, {2}, {0}, {64}}, at(4, 1, 4, 3)},
		{k, []api.State{{0}, {1}, {2}, {none}, {0}}, at(3, 1, 3, 3)},
		{k, []api.State{{64}, {64}, {2}, {0}, {0}}, at(0, 1, 0, 3, 1, 1, 1, 2, 1, 3, 2, 3)},
		{k, []api.State{{0}, {1 << 63}, {1}, {0}, {0}}, at(1, 1, 1, 3)},
		// Rule 2.
		{k, []api.State{{0}, {0}, {1}, {0}, {0}}, at(1, 2)},
		{k, []api.State{{0}, {1}, {0}, {1}, {0}}, at(2, 2)},
		{k, []api.State{{0}, {1}, {1}, {0}, {0}}, at(2, 2)},
		// Rule 3.
		{k, []api.State{{0}, {1}, {2}, {0}, {1}}, at(4, 3)},
		{k, []api.State{{0}, {1}, {2}, {1}, {0}}, at(3, 3)},
		{k, []api.State{{0}, {1}, {3}, {0}, {63}}, at(2, 3, 4, 3)},
		{k, []api.State{{1}, {0}, {2}, {0}, {0}}, at(0, 3)},
		// Both of them at one vertex.
		{k, []api.State{{1}, {1}, {0}, {1}, {0}}, at(0, 3, 1, 2, 1, 3)},
		// A colour above 63 fills no place, not even of the colour that it is modulo 64.
		{k, []api.State{{64}, {1}, {0}, {1}, {0}}, at(0, 1, 0, 3, 1, 3)},
		{k, []api.State{{0}, {1<<32 + 1}, {2}, {0}, {0}}, at(1, 1, 1, 3, 2, 3)},
	})
}

// P18.9.
func TestCores(t *testing.T) {
	k := kernelOf("Cores", 6, between(0, 1, 1, 2, 2, 0, 2, 3, 3, 3, 4, 5, 5, 4, 4, 5)...)
	held(t, []row{
		{k, []api.State{{2}, {2}, {2}, {1}, {3}, {3}}, nil},
		{k, []api.State{{2, 9}, {2, 9}, {2, 9}, {1, 9}, {3, 9}, {3, 9}}, nil},
		{k, []api.State{{2}, {2}, {3}, {1}, {3}, {3}}, at(2, 1)},
		{k, []api.State{{2}, {2}, {2}, {0}, {3}, {1}}, at(3, 1, 5, 1)},
		{k, []api.State{{2}, {2}, {2}, {1}, {3}, {1<<63 + 3}}, at(5, 1)},
		{k, []api.State{{none}, {2}, {2}, {1}, {3}, {none}}, at(0, 1, 5, 1)},
		{kernelOf("Cores", 1), []api.State{{0}}, nil},
		{kernelOf("Cores", 1, between(0, 0)...), []api.State{{1}}, at(0, 1)},
		{kernelOf("Cores", 1), []api.State{{none}}, at(0, 1)},
	})
}

// P18.10.
func TestSccs(t *testing.T) {
	k := kernelOf("Sccs", 6, between(1, 3, 3, 1, 3, 2, 2, 4, 4, 5, 5, 2, 0, 0)...)
	chain := kernelOf("Sccs", 5, between(4, 3, 3, 4, 3, 1, 1, 2, 2, 1, 2, 0)...)
	held(t, []row{
		{k, []api.State{{0}, {1}, {2}, {1}, {2}, {2}}, nil},
		{k, []api.State{{0, 9}, {1, 9}, {2, 9}, {1, 9}, {2, 9}, {2, 9}}, nil},
		{chain, []api.State{{0}, {1}, {1}, {3}, {3}}, nil},
		// Rule 1.
		{k, []api.State{{1}, {1}, {2}, {1}, {2}, {2}}, at(0, 1, 0, 2)},
		{k, []api.State{{0}, {3}, {2}, {3}, {2}, {2}}, at(1, 1)},
		{k, []api.State{{0}, {1}, {2}, {1}, {2}, {6}}, at(4, 2, 5, 1, 5, 2)},
		{k, []api.State{{0}, {1}, {2}, {1}, {2}, {none}}, at(4, 2, 5, 1, 5, 2)},
		{k, []api.State{{1 << 63}, {1}, {2}, {1}, {2}, {2}}, at(0, 1, 0, 2)},
		{k, []api.State{{1<<32 + 1}, {1}, {2}, {1}, {2}, {2}}, at(0, 1, 0, 2)},
		{k, []api.State{{0}, {1}, {2}, {1}, {2}, {4}}, at(4, 2, 5, 1, 5, 2)},
		// Rule 2: no way there, no way back, a way that leaves the label.
		{k, []api.State{{0}, {0}, {2}, {0}, {2}, {2}}, at(1, 2, 3, 2)},
		{chain, []api.State{{0}, {1}, {1}, {1}, {1}}, at(3, 2, 4, 2)},
		{chain, []api.State{{0}, {1}, {0}, {3}, {3}}, at(2, 2)},
		{k, []api.State{{0}, {1}, {2}, {1}, {4}, {2}}, at(5, 2)},
		{k, []api.State{{0}, {1}, {1}, {1}, {1}, {1}}, at(2, 2, 4, 2, 5, 2)},
		// The way may go by a vertex at which rule 1 is broken.
		{k, []api.State{{0}, {1}, {4}, {1}, {4}, {4}}, at(2, 1)},
		// Rule 3: what is left are the labels on a way round, and those behind it.
		{k, []api.State{{0}, {1}, {2}, {1}, {4}, {5}}, at(2, 3, 4, 3, 5, 3)},
		{k, []api.State{{0}, {1}, {2}, {3}, {2}, {2}}, at(1, 3, 2, 3, 3, 3, 4, 3, 5, 3)},
		{chain, []api.State{{0}, {1}, {2}, {3}, {3}}, at(0, 3, 1, 3, 2, 3)},
		{chain, []api.State{{0}, {1}, {1}, {3}, {4}}, at(0, 3, 1, 3, 2, 3, 3, 3, 4, 3)},
		// Rule 3 is not asked where another one is broken, were it at a greater vertex.
		{chain, []api.State{{0}, {1}, {2}, {3}, {2}}, at(4, 2)},
		{kernelOf("Sccs", 3, between(0, 1, 1, 0)...), []api.State{{0}, {1}, {3}}, at(2, 1, 2, 2)},
		{kernelOf("Sccs", 3, between(0, 1, 1, 0)...), []api.State{{0}, {1}, {0}}, at(2, 2)},
		{kernelOf("Sccs", 1), []api.State{{0}}, nil},
	})
}

// P18.11.
func TestTopoLevels(t *testing.T) {
	k := kernelOf("TopoLevels", 6, between(4, 3, 3, 1, 4, 1, 5, 5, 5, 2, 1, 2, 4, 3)...)
	way := kernelOf("TopoLevels", 3, between(0, 1, 1, 2)...)
	held(t, []row{
		{k, []api.State{{0}, {2}, {none}, {1}, {0}, {none}}, nil},
		{k, []api.State{{0, 9}, {2, 9}, {none, 9}, {1, 9}, {0, 9}, {none, 9}}, nil},
		// Rule 1; a level at or above n.
		{k, []api.State{{6}, {2}, {none}, {1}, {0}, {none}}, at(0, 1, 0, 3)},
		{k, []api.State{{none - 1}, {2}, {none}, {1}, {0}, {none}}, at(0, 1, 0, 3)},
		{k, []api.State{{1 << 63}, {2}, {none}, {1}, {0}, {none}}, at(0, 1, 0, 3)},
		{way, []api.State{{2}, {3}, {4}}, at(0, 3, 1, 1, 2, 1)},
		{way, []api.State{{none - 2}, {none - 1}, {none}}, at(0, 1, 0, 3, 1, 1, 2, 3)},
		// Rule 2.
		{k, []api.State{{0}, {2}, {3}, {1}, {0}, {none}}, at(2, 2)},
		{way, []api.State{{0}, {0}, {1}}, at(1, 2)},
		{way, []api.State{{none}, {0}, {1}}, at(0, 3, 1, 2)},
		{way, []api.State{{1}, {0}, {1}}, at(0, 3, 1, 2)},
		{k, []api.State{{0}, {2}, {none}, {1}, {0}, {0}}, at(2, 3, 5, 2)},
		{k, []api.State{{0}, {1}, {none}, {1}, {0}, {none}}, at(1, 2)},
		// Rule 3.
		{way, []api.State{{0}, {1}, {none}}, at(2, 3)},
		{way, []api.State{{0}, {2}, {1}}, at(1, 3, 2, 2, 2, 3)},
		{k, []api.State{{1}, {2}, {none}, {1}, {0}, {none}}, at(0, 3)},
		{k, []api.State{{none}, {2}, {none}, {1}, {0}, {none}}, at(0, 3)},
		{k, []api.State{{0}, {none}, {none}, {1}, {0}, {none}}, at(1, 3)},
		{k, []api.State{{0}, {5}, {none}, {1}, {0}, {none}}, at(1, 3)},
		// Two at one vertex.
		{way, []api.State{{0}, {1}, {1}}, at(2, 2, 2, 3)},
		{way, []api.State{{2}, {2}, {3}}, at(0, 3, 1, 2, 1, 3, 2, 1)},
		{kernelOf("TopoLevels", 1), []api.State{{0}}, nil},
		{kernelOf("TopoLevels", 1), []api.State{{none}}, at(0, 3)},
		{kernelOf("TopoLevels", 1, between(0, 0)...), []api.State{{0}}, at(0, 2)},
	})
}

// P18.12.
func TestTwoColours(t *testing.T) {
	k := kernelOf("TwoColours", 8, between(5, 1, 5, 3, 7, 3, 0, 2, 2, 4, 4, 0, 1, 5)...)
	held(t, []row{
		{k, []api.State{{2}, {0}, {2}, {0}, {2}, {1}, {0}, {1}}, nil},
		{k, []api.State{{2, 9}, {0, 9}, {2, 9}, {0, 9}, {2, 9}, {1, 9}, {0, 9}, {1, 9}}, nil},
		{k, []api.State{{2}, {1}, {2}, {1}, {2}, {0}, {0}, {0}}, at(1, 1, 3, 1, 5, 1, 7, 1)},
		{k, []api.State{{2}, {0}, {2}, {0}, {2}, {1}, {1}, {1}}, at(6, 1)},
		{k, []api.State{{0}, {0}, {1}, {0}, {1}, {1}, {0}, {1}}, at(0, 1, 2, 1, 4, 1)},
		{k, []api.State{{2}, {0}, {2}, {0}, {2}, {1}, {0}, {3}}, at(7, 1)},
		{k, []api.State{{2}, {0}, {2}, {0}, {2}, {1}, {none}, {1 << 63}}, at(6, 1, 7, 1)},
		{k, []api.State{{1<<32 + 2}, {0}, {2}, {0}, {2}, {1}, {0}, {1}}, at(0, 1)},
		{k, []api.State{{2}, {2}, {2}, {2}, {2}, {2}, {0}, {2}}, at(1, 1, 3, 1, 5, 1, 7, 1)},
		{kernelOf("TwoColours", 1), []api.State{{0}}, nil},
		{kernelOf("TwoColours", 1), []api.State{{2}}, at(0, 1)},
		{kernelOf("TwoColours", 1, between(0, 0)...), []api.State{{0}}, at(0, 1)},
	})
}

// P18.13: the bits of a rank, in a whole word; chapter 15's first example, behind one round and behind two.
func TestRanks(t *testing.T) {
	one := kernelOf("Ranks", 2, between(0, 1)...)
	one.rounds = 1
	two := one
	two.rounds = 2
	none := kernelOf("Ranks", 1)
	none.rounds = api.MaxRanked // it ends where nothing changes
	held(t, []row{
		{one, []api.State{{6: 0x3ec00000}, {6: 0x3f200000}}, nil},
		{two, []api.State{{6: 0x3ed00000}, {6: 0x3f180000}}, nil},
		{two, []api.State{{9, 9, 9, 9, 9, 9, 0x3ed00000, 9}, {9, 9, 9, 9, 9, 9, 0x3f180000, 9}}, nil},
		{two, []api.State{{6: 0x3ec00000}, {6: 0x3f200000}}, at(0, 1, 1, 1)},
		{two, []api.State{{6: 0x3ed00000}, {6: 0x3f180001}}, at(1, 1)},
		{two, []api.State{{6: 0x3ed00000 + 1<<32}, {6: 0x3f180000}}, at(0, 1)},
		{two, []api.State{{6: 0x3ed00000}, {6: 0x3f180000 + 1<<63}}, at(1, 1)},
		{two, []api.State{{6: 0x3ed00000}, {6: 0x7fc00000}}, at(1, 1)},
		{none, []api.State{{6: 0x3f800000}}, nil},
		{none, []api.State{{6: 0x3f800001}}, at(0, 1)},
	})
}

// P18.14: the bits of a number, in a whole word; sums that cancel, that are beyond float32, and zeros have one sign.
func TestProducts(t *testing.T) {
	many := func(w ...uint32) kernel {
		k := kernelOf("Products", 2)
		k.kind = api.EReal
		for _, w := range w {
			k.edges = append(k.edges, api.Edge{Src: 0, Dst: 1, W: w})
		}
		return k
	}
	const greatest = 0x7f7fffff
	up := many(greatest, greatest, greatest, greatest, greatest, greatest, greatest, greatest)
	down := many(slices.Repeat([]uint32{greatest | 1<<31}, 8)...)
	back := many(append(slices.Repeat([]uint32{greatest}, 8), slices.Repeat([]uint32{greatest | 1<<31}, 8)...)...)
	held(t, []row{
		{many(), []api.State{{7: 0}, {7: 0}}, nil},
		{many(), []api.State{{9, 9, 9, 9, 9, 9, 9, 0}, {9, 9, 9, 9, 9, 9, 9, 0}}, nil},
		{many(), []api.State{{7: 0}, {7: 1}}, at(1, 1)},
		{many(), []api.State{{7: 1 << 31}, {7: 0}}, at(0, 1)},
		{many(), []api.State{{7: 1 << 32}, {7: none}}, at(0, 1, 1, 1)},
		{many(1 << 31), []api.State{{7: 0}, {7: 0}}, nil},
		{up, []api.State{{7: 0}, {7: 0x7f800000}}, nil},
		{up, []api.State{{7: 0}, {7: 0x7f7fffff}}, at(1, 1)},
		{up, []api.State{{7: 0}, {7: 0x7f800000 + 1<<32}}, at(1, 1)},
		{down, []api.State{{7: 0}, {7: 0xff800000}}, nil},
		{down, []api.State{{7: 0}, {7: 0x7f800000}}, at(1, 1)},
		{back, []api.State{{7: 0}, {7: 0}}, nil},
		{back, []api.State{{7: 0}, {7: 0x7fc00000}}, at(1, 1)},
	})
}

// P18.15: each crossing edge counts for itself, where it leads to.
func TestCrossings(t *testing.T) {
	k := kernelOf("Crossings", 4, between(0, 1, 0, 1, 1, 0, 2, 3, 3, 3, 1, 2, 2, 1, 3, 0)...)
	want := k.want(t)
	for slices.Max(want) < 3 {
		k.seed++
		want = k.want(t)
	}
	states := make([]api.State, 4)
	for v := range states {
		states[v] = api.State{want[v], 9, 9, 9, 9, 9, 9, 9}
	}
	held(t, []row{{k, slices.Clone(states), nil}})
	for v := range 4 {
		for _, word := range []uint64{want[v] + 1, want[v] - 1, want[v] + 1<<32, want[v] + 1<<63, none - want[v]} {
			turned := slices.Clone(states)
			turned[v][0] = word
			held(t, []row{{k, turned, at(v, 1)}})
			if v < 3 {
				turned[3][0] = word
				held(t, []row{{k, turned, k.model(t)(turned)}})
			}
		}
	}
}

// P18.16: the sets of just so many rounds.
func TestRegisters(t *testing.T) {
	for rounds := 1; rounds <= 6; rounds++ {
		k := kernelOf("Registers", 6, between(0, 1, 1, 2, 2, 3, 3, 4, 4, 5, 0, 1, 2, 2)...)
		k.rounds = rounds
		states := k.result(t)
		held(t, []row{{k, states, nil}})
		for v := range states {
			for _, bit := range []int{0, 3, 31, 60, 63} {
				turned := slices.Clone(states)
				turned[v][0] ^= 1 << bit
				held(t, []row{{k, turned, at(v, 1)}})
			}
		}
		k.rounds++
		if l := k.model(t)(states); (len(l) == 0) != (rounds >= 5) {
			t.Errorf("P18.16: behind %d rounds and one more: %v", rounds, l)
		} else if v := k.verdict(t, states); v != verdictOf(l) {
			t.Errorf("P18.16: of %d rounds, taken for %d: %+v, want %+v", rounds, k.rounds, v, verdictOf(l))
		}
	}
}
