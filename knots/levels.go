package knots

import "sluice/api"

// lifting is Topo's one phase.
const lifting = 0

// levels is the program of Topo: a vertex has its level as soon as all vertices that lead to it have theirs. Without one it has the mark in word 0. Word 1: the edges along which nothing has come yet; word 2: along how many something comes now; word 3: the greatest level that they give it.
type levels struct{ common }

func (p levels) start(_ uint32, d api.Degrees) api.State {
	if d.In == 0 {
		return api.State{told: 0, news: 1}
	}
	return api.State{told: p.mark, own: d.In}
}

func (p levels) sendLevel(s api.State, _ api.Edge, back bool) (a, b uint64, send bool) {
	if back || s[news] == 0 {
		return 0, 0, false
	}
	return 1, s[told] + 1, true
}

func (p levels) lift(_ uint32, s api.State) (api.State, bool) {
	left := s[own] - s[first]
	if p.isMarked(s) && left == 0 {
		return api.State{told: s[other], other: s[other], news: 1}, true
	}
	return api.State{told: s[told], own: left, other: s[other]}, false
}

// Topo makes the program of levels (P16.2).
func Topo(n uint32) (*Knots, api.Errno) {
	p := levels{common{mark: none}}
	return made(n, Knots{
		sink:   api.Sink{A: first, MonA: api.MonAdd, B: other, MonB: api.MonMax},
		start:  p.start,
		fold:   p.count,
		phases: []phase{lifting: {p.sendLevel, p.lift, p.orUnmarked(ending(lifting))}},
	})
}

// Level tells of a result of Topo the vertex's level; false, if a cycle leads to it (P16.2).
func Level(s api.State) (uint64, bool) {
	if s[told] == none {
		return 0, false
	}
	return s[told], true
}
