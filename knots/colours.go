package knots

import "sluice/api"

// The phases of TwoColour.
const (
	reaching = iota // each vertex finds the least one of its component, and by the fewest edges to it its colour
	matching        // one round, in which the ends of each edge hold their colours against each other
	spoiling        // a component is told where two of them were alike
)

// spoiled stands in the place of a colour.
const spoiled = 2

// colours is the program of TwoColour. Word 0: the colour, or that there is none, which is the mark. Word 1: the least vertex that is known, in the high half, and the fewest edges to it, in the low one: so of two the lesser goes by the vertices first.
type colours struct{ common }

// state tells one to which nothing has come yet.
func (p colours) state(colour, place, unsaid uint64) api.State {
	return api.State{told: colour, own: place, first: none, other: 0, news: unsaid}
}

func (p colours) start(v uint32, _ api.Degrees) api.State {
	return p.state(0, uint64(v)<<32, 1)
}

func (p colours) sendPlace(s api.State, _ api.Edge, _ bool) (a, b uint64, send bool) {
	if s[news] == 0 {
		return 0, 0, false
	}
	return s[own] + 1, 0, true
}

func (p colours) reach(_ uint32, s api.State) (api.State, bool) {
	if s[first] < s[own] {
		return p.state(s[first]&1, s[first], 1), true
	}
	return p.state(s[told], s[own], 0), false
}

// sendColour: a bit for each colour; a spoiled vertex sends both, so whoever hears it hears the colour that is its own.
func (p colours) sendColour(s api.State, _ api.Edge, _ bool) (a, b uint64, send bool) {
	return none, s[told] + 1, true
}

func (p colours) sendSpoiled(s api.State, e api.Edge, back bool) (a, b uint64, send bool) {
	if s[news] == 0 {
		return 0, 0, false
	}
	return p.sendColour(s, e, back)
}

func (p colours) spoil(_ uint32, s api.State) (api.State, bool) {
	if !p.isMarked(s) && s[other]&(s[told]+1) != 0 {
		return p.state(p.mark, s[own], 1), true
	}
	return p.state(s[told], s[own], 0), false
}

// TwoColour makes the program of two colours (P16.3).
func TwoColour(n uint32) (*Knots, api.Errno) {
	p := colours{common{mark: spoiled}}
	return made(n, Knots{
		both:  true,
		sink:  api.Sink{A: first, MonA: api.MonMin, B: other, MonB: api.MonOr},
		start: p.start,
		fold:  p.count,
		phases: []phase{
			reaching: {p.sendPlace, p.reach, staying(reaching, matching)},
			matching: {p.sendColour, p.spoil, ending(spoiling)},
			spoiling: {p.sendSpoiled, p.spoil, ending(spoiling)},
		},
	})
}

// Colour tells of a result of TwoColour the vertex's colour; false, if its component has none (P16.3).
func Colour(s api.State) (int, bool) {
	if s[told] >= spoiled {
		return 0, false
	}
	return int(s[told]), true
}
