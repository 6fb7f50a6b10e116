package peels

import (
	"math/bits"

	"sluice/api"
)

// colouring is the program of Colour. Word 0: the colour; word 2: the least priority of neighbours that wait; word 3: the colours of those that have one, as bits.
type colouring struct{ ranked }

func (p colouring) scatter(_ api.Ctl, s api.State, e api.Edge, back bool) (a, b uint64, send bool, err api.Errno) {
	return p.tell(s, e, back, 1<<ColourOf(s))
}

func (p colouring) apply(_ api.Ctl, v uint32, s api.State) (api.State, bool, api.Errno) {
	own, err := p.priority(v)
	if err != api.OK {
		return api.State{}, false, err
	}
	if s[1] != waiting {
		return api.State{s[0], told, unheard, s[3]}, false, api.OK
	}
	before := api.State{s[0], waiting, unheard, s[3]}
	next := before
	if own < s[2] {
		free := bits.TrailingZeros64(^s[3])
		if free >= api.MaxColours {
			return api.State{}, false, api.ErrColours
		}
		next[0], next[1] = uint64(free), news
	}
	return next, next != before, api.OK
}

// Colour makes the program of the first colouring in an order (P14.3).
func Colour(r api.Rank) (*Peel, api.Errno) {
	if err := Check(r); err != api.OK {
		return nil, err
	}
	return &Peel{colouring{ranked{r}}}, api.OK
}

// ColourOf tells of a result of Colour the vertex's colour (P14.4).
func ColourOf(s api.State) int { return int(s[0] % api.MaxColours) }
