package flows

import (
	"math"
	"slices"

	"sluice/api"
)

// levels is what BFS and Reach share. A state: the level, which is the round in which the vertex was found; from where; the least of what has come.
type levels struct {
	pace
	sources []uint32
}

// levelsOf makes what BFS and Reach share, of a list that is the caller's.
func levelsOf(n uint32, sources ...uint32) (levels, api.Errno) {
	if !isSize(n) {
		return levels{}, api.ErrArg
	}
	if len(sources) == 0 || len(sources) > api.MaxSources || slices.Max(sources) >= n {
		return levels{}, api.ErrSource
	}
	return levels{pace{n}, slices.Clone(sources)}, api.OK
}

// Words is api.Program's.
func (l levels) Words() int { return 3 }

// Both is api.Program's.
func (l levels) Both() bool { return false }

// Sink is api.Program's: what comes to a vertex that has a level must not touch where that is from, so it is gathered apart.
func (l levels) Sink() api.Sink { return api.Sink{A: 2, MonA: api.MonMin} }

// Start is api.Program's.
func (l levels) Start(v uint32, _ api.Degrees) (api.State, api.Errno) {
	if slices.Contains(l.sources, v) {
		return api.State{0, uint64(v), api.Unreached}, api.OK
	}
	return api.State{api.Unreached, api.Unreached, api.Unreached}, api.OK
}

// send tells what Scatter does: those who were found in the last round say from where.
func (l levels) send(c api.Ctl, s api.State, from uint64, back bool) (a, b uint64, send bool, err api.Errno) {
	if back || !l.isNews(c, s[0]) {
		return 0, 0, false, api.OK
	}
	return from, 0, true, api.OK
}

// Apply is api.Program's. What comes first comes in one round, all of it from those of the level ahead; what comes behind it is not looked at.
func (l levels) Apply(c api.Ctl, _ api.State, _ uint32, s api.State) (api.State, bool, api.Errno) {
	found := s[0] == api.Unreached && s[2] != api.Unreached
	if found {
		s[0], s[1] = l.round(c), s[2]
	}
	return s, found, api.OK
}

// Fold is api.Program's: how many have a level, and the greatest.
func (l levels) Fold(_ api.Ctl, agg api.State, _ uint32, s api.State) (api.State, api.Errno) {
	if s[0] != api.Unreached {
		agg[0]++
		agg[1] = max(agg[1], s[0])
	}
	return agg, api.OK
}

// breadth is BFS's program: what is sent is who sends.
type breadth struct{ levels }

// Scatter is api.Program's.
func (b breadth) Scatter(c api.Ctl, s api.State, e api.Edge, back bool) (uint64, uint64, bool, api.Errno) {
	return b.send(c, s, uint64(e.Src), back)
}

// BFS goes from a source, level by level (P13.1).
func BFS(n, source uint32) (*Flow, api.Errno) {
	l, err := levelsOf(n, source)
	if err != api.OK {
		return nil, err
	}
	return &Flow{breadth{l}}, api.OK
}

// reach is Reach's program: what is sent is the source.
type reach struct{ levels }

// Scatter is api.Program's.
func (r reach) Scatter(c api.Ctl, s api.State, _ api.Edge, back bool) (uint64, uint64, bool, api.Errno) {
	return r.send(c, s, s[1], back)
}

// Reach goes from several sources at once (P13.3).
func Reach(n uint32, sources ...uint32) (*Flow, api.Errno) {
	l, err := levelsOf(n, sources...)
	if err != api.OK {
		return nil, err
	}
	return &Flow{reach{l}}, api.OK
}

// Hops tells of a result of BFS or Reach the level and the parent, or the source (P13.2).
func Hops(s api.State) (level uint64, from uint32, ok bool) {
	if s[0] == api.Unreached || s[1] > math.MaxUint32 {
		return 0, 0, false
	}
	return s[0], uint32(s[1]), true
}
