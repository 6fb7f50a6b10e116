package knots

import (
	"math"

	"sluice/api"
)

// none is the word of a vertex of which nothing is told, and what changes nothing where the least is gathered.
const none = math.MaxUint64

// The words of a state, in all three programs.
const (
	told  = 0 // what the result tells of the vertex
	own   = 1 // what the vertex goes by till then
	first = 2 // what comes, the first word of it
	other = 3 // the second
	news  = 4 // 1: what the vertex has to say it has not said yet
	words = 5
)

// phase is what the vertices do in the rounds whose ctl names it.
type phase struct {
	send   func(s api.State, e api.Edge, back bool) (a, b uint64, send bool)
	become func(v uint32, s api.State) (next api.State, changed bool)
	onward onward
}

// onward tells behind a round of a phase of which phase the next one is, and whether the run is done.
type onward func(agg api.State, changed uint64) (next uint64, done bool)

// staying goes on with a phase till a round changes nothing, and with another one then.
func staying(here, next uint64) onward {
	return func(_ api.State, changed uint64) (uint64, bool) {
		if changed > 0 {
			return here, false
		}
		return next, false
	}
}

// ending goes on with a phase, unless the round has changed nothing: then the run is done.
func ending(next uint64) onward {
	return func(_ api.State, changed uint64) (uint64, bool) { return next, changed == 0 }
}

// common is what the three programs share: word 0 of a state is what the result tells, and word 0 of the aggregate counts the vertices at which that is the mark.
type common struct{ mark uint64 }

func (p common) isMarked(s api.State) bool { return s[told] == p.mark }

// count adds a vertex to the aggregate.
func (p common) count(agg, s api.State) api.State {
	if p.isMarked(s) {
		agg[0]++
	}
	return agg
}

// orUnmarked goes on as another does; but the run is done as soon as no vertex is marked.
func (p common) orUnmarked(on onward) onward {
	return func(agg api.State, changed uint64) (uint64, bool) {
		next, done := on(agg, changed)
		return next, done || agg[0] == 0
	}
}
