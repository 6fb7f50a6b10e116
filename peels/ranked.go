package peels

import (
	"math"

	"sluice/api"
)

// Word 1 of a state, in all three programs: a vertex waits; what has become of it is to be told; it was told. What is none of the three counts as the last: so word 1 is held against the first two alone.
const (
	waiting uint64 = iota
	news
	told
)

// unheard is what stands where no priority was gathered: no vertex has it, and all that have one are below.
const unheard = math.MaxUint64

// ranked is what Set and Colour share: a vertex waits for its neighbours that come ahead of it in the order, and hears of each when that one is decided.
type ranked struct{ order api.Rank }

// priority tells a vertex's place in the order, which was checked before.
func (r ranked) priority(v uint32) (uint64, api.Errno) {
	if v >= r.order.N {
		return 0, api.ErrArg
	}
	return (uint64(r.order.A)*uint64(v) + uint64(r.order.C)) % uint64(r.order.N), api.OK
}

func (r ranked) words() int { return 4 }

func (r ranked) both() bool { return true }

// sink: what is gathered of those who wait, and of those who are decided.
func (r ranked) sink() api.Sink {
	return api.Sink{A: 2, MonA: api.MonMin, B: 3, MonB: api.MonOr}
}

func (r ranked) start(v uint32, _ api.Degrees) (api.State, api.Errno) {
	if _, err := r.priority(v); err != api.OK {
		return api.State{}, err
	}
	return api.State{2: unheard}, api.OK
}

// tell is the scatter of both; what is told of a vertex that is decided is the program's.
func (r ranked) tell(s api.State, e api.Edge, back bool, what uint64) (a, b uint64, send bool, err api.Errno) {
	switch {
	case e.Src == e.Dst:
		return 0, 0, false, api.OK
	case s[1] == waiting:
		a, err = r.priority(teller(e, back))
		return a, 0, err == api.OK, err
	case s[1] == news:
		return unheard, what, true, api.OK
	}
	return 0, 0, false, api.OK
}

// teller tells the vertex whose state is sent along the edge.
func teller(e api.Edge, back bool) uint32 {
	if back {
		return e.Dst
	}
	return e.Src
}

// fold counts those who wait.
func (r ranked) fold(agg, s api.State) (api.State, api.Errno) {
	if s[1] == waiting {
		agg[0]++
	}
	return agg, api.OK
}

func (r ranked) turn(c api.Ctl, agg api.State) (api.Ctl, bool, api.Errno) {
	return c, agg[0] == 0, api.OK
}
