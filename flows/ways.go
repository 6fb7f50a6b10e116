package flows

import (
	"sluice/api"
	"sluice/grain"
)

// ways is SSSP's program. A state: the distance; 1, if the verdict is that ways can be shortened for ever; the round in which the distance was found; the least of what has come.
type ways struct {
	pace
	source uint32
	kind   api.EdgeKind
	rounds [2]func(c api.Ctl, s api.State) (api.State, bool) // what Apply does: in the rounds that shorten ways, and in the one that tells the verdict
}

func waysOf(n, source uint32, kind api.EdgeKind) *ways {
	w := &ways{pace: pace{n}, source: source, kind: kind}
	w.rounds = [2]func(c api.Ctl, s api.State) (api.State, bool){w.shorten, w.tell}
	return w
}

// Words is api.Program's.
func (w *ways) Words() int { return 4 }

// Both is api.Program's.
func (w *ways) Both() bool { return false }

// Sink is api.Program's: gathered apart, so that Apply can tell whether the distance changes.
func (w *ways) Sink() api.Sink { return api.Sink{A: 3, MonA: api.MonMinInt} }

// Start is api.Program's.
func (w *ways) Start(v uint32, _ api.Degrees) (api.State, api.Errno) {
	if v == w.source {
		return api.State{0, 0, 0, api.Endless}, api.OK
	}
	return api.State{api.Endless, 0, 0, api.Endless}, api.OK
}

// weight tells an edge's weight.
func (w *ways) weight(e api.Edge) int64 {
	if w.kind == api.EPlain {
		return 1
	}
	return int64(int32(e.W))
}

// Scatter is api.Program's. A sum that is no int64 is told whether it were sent now or not.
func (w *ways) Scatter(c api.Ctl, s api.State, e api.Edge, back bool) (a, b uint64, send bool, err api.Errno) {
	if back || s[0] == api.Endless {
		return 0, 0, false, api.OK
	}
	sum, err := grain.Add(int64(s[0]), w.weight(e))
	if err != api.OK || w.isVerdict(c) || !w.isNews(c, s[2]) {
		return 0, 0, false, err
	}
	return uint64(sum), 0, true, api.OK
}

// Apply is api.Program's.
func (w *ways) Apply(c api.Ctl, _ api.State, _ uint32, s api.State) (api.State, bool, api.Errno) {
	which := 0
	if w.isVerdict(c) {
		which = 1
	}
	next, changed := w.rounds[which](c, s)
	return next, changed, api.OK
}

// shorten takes the least sum that has come, if it is less than the distance. It has come from a vertex whose distance was found one round ahead, and which, if that was not its last one, will send again: so word 2 rises along the shortest ways.
func (w *ways) shorten(c api.Ctl, s api.State) (api.State, bool) {
	less := int64(s[3]) < int64(s[0])
	if less {
		s[0], s[2] = s[3], w.round(c)
	}
	return s, less
}

// tell says of a vertex that ways can be shortened for ever: else there had been no such round.
func (w *ways) tell(_ api.Ctl, s api.State) (api.State, bool) {
	s[1] = 1
	return s, true
}

// Fold is api.Program's: how many are reached, and the verdict.
func (w *ways) Fold(_ api.Ctl, agg api.State, _ uint32, s api.State) (api.State, api.Errno) {
	if s[0] != api.Endless {
		agg[0]++
	}
	if s[1] == 1 {
		agg[1] = 1
	}
	return agg, api.OK
}

// SSSP finds the shortest ways from a source (P13.6).
func SSSP(n, source uint32, kind api.EdgeKind) (*Flow, api.Errno) {
	switch {
	case !isSize(n) || kind != api.EPlain && kind != api.ECounted:
		return nil, api.ErrArg
	case source >= n:
		return nil, api.ErrSource
	}
	return &Flow{waysOf(n, source, kind)}, api.OK
}

// Distance tells of a result of SSSP the distance (P13.7).
func Distance(s api.State) (int64, bool) {
	if s[1] != 0 || s[0] == api.Endless {
		return 0, false
	}
	return int64(s[0]), true
}

// Negative tells of a result of SSSP whether a cycle below zero can be reached (P13.7).
func Negative(s api.State) bool { return s[1] == 1 }
