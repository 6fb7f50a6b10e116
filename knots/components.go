package knots

import (
	"math"

	"sluice/api"
)

// The phases of SCC, over and over till all vertices are settled.
const (
	spreading = iota // each that waits finds the least of those that lead to it: its label
	settling         // who leads back to its label is of that one's component
	trimming         // who leads to nobody else that waits, or to whom nobody else leads, is a component by itself: so what hangs in long chains takes no passes of its own
)

// components is the program of SCC. Who is not settled waits: word 0 is the mark. Word 1 is the label.
//
// At the end of spreading a label is never above those of the vertices that lead to it, so among the labels that come back to a vertex its own, if it is there, is the greatest. A vertex that is its own label is the least of its component; the least that waits always is, so each time at least one is settled.
type components struct{ common }

// state tells one to which nothing has come yet.
func (p components) state(knot, label, unsaid uint64) api.State {
	return api.State{told: knot, own: label, first: none, other: 0, news: unsaid}
}

func (p components) start(v uint32, _ api.Degrees) api.State {
	return p.state(p.mark, uint64(v), 1)
}

func (p components) sendLabel(s api.State, _ api.Edge, back bool) (a, b uint64, send bool) {
	if back || s[news] == 0 {
		return 0, 0, false
	}
	return s[own], 0, true
}

func (p components) spread(_ uint32, s api.State) (api.State, bool) {
	if p.isMarked(s) && s[first] < s[own] {
		return p.state(s[told], s[first], 1), true
	}
	return p.state(s[told], s[own], 0), false
}

// sendSettled: one more than the label, since 0 is what stands where nothing has come.
func (p components) sendSettled(s api.State, _ api.Edge, back bool) (a, b uint64, send bool) {
	if !back || s[news] == 0 {
		return 0, 0, false
	}
	return none, s[told] + 1, true
}

func (p components) settle(v uint32, s api.State) (api.State, bool) {
	if p.isMarked(s) && (s[own] == uint64(v) || s[other] == s[own]+1) {
		return p.state(s[own], s[own], 1), true
	}
	return p.state(s[told], s[own], 0), false
}

// sendWaiting: whoever waits says so to both sides; a loop is no other vertex.
func (p components) sendWaiting(s api.State, e api.Edge, back bool) (a, b uint64, send bool) {
	switch {
	case !p.isMarked(s) || e.Src == e.Dst:
		return 0, 0, false
	case back:
		return none, 1, true
	}
	return 0, 0, true
}

func (p components) trim(v uint32, s api.State) (api.State, bool) {
	switch {
	case !p.isMarked(s):
		return p.state(s[told], s[own], 0), false
	case s[first] == none || s[other] == 0:
		return p.state(uint64(v), uint64(v), 0), true
	}
	return p.start(v, api.Degrees{}), false
}

// SCC makes the program of strongly connected components (P16.1).
func SCC(n uint32) (*Knots, api.Errno) {
	p := components{common{mark: none}}
	return made(n, Knots{
		both:  true,
		sink:  api.Sink{A: first, MonA: api.MonMin, B: other, MonB: api.MonMax},
		start: p.start,
		fold:  p.count,
		phases: []phase{
			spreading: {p.sendLabel, p.spread, staying(spreading, settling)},
			settling:  {p.sendSettled, p.settle, p.orUnmarked(staying(settling, trimming))},
			trimming:  {p.sendWaiting, p.trim, p.orUnmarked(staying(trimming, spreading))},
		},
	})
}

// Knot tells of a result of SCC the least vertex of the component; false, if the vertex is not settled (P16.1).
func Knot(s api.State) (uint32, bool) {
	if s[told] > math.MaxUint32 {
		return 0, false
	}
	return uint32(s[told]), true
}
