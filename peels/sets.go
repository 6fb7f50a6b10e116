package peels

import "sluice/api"

// set is the program of Set. Word 0: whether it is in; word 2: the least priority of neighbours that wait; word 3: whether a neighbour is in.
type set struct{ ranked }

func (p set) scatter(_ api.Ctl, s api.State, e api.Edge, back bool) (a, b uint64, send bool, err api.Errno) {
	return p.tell(s, e, back, 1)
}

func (p set) apply(_ api.Ctl, v uint32, s api.State) (api.State, bool, api.Errno) {
	own, err := p.priority(v)
	if err != api.OK {
		return api.State{}, false, err
	}
	if s[1] != waiting {
		return api.State{s[0], told, unheard}, false, api.OK
	}
	before := api.State{2: unheard}
	next := before
	switch {
	case s[3] != 0:
		// Nobody waits for one that is out: so it has nothing to tell.
		next[1] = told
	case own < s[2]:
		next[0], next[1] = 1, news
	}
	return next, next != before, api.OK
}

// Set makes the program of the first independent set in an order (P14.3).
func Set(r api.Rank) (*Peel, api.Errno) {
	if err := Check(r); err != api.OK {
		return nil, err
	}
	return &Peel{set{ranked{r}}}, api.OK
}

// InSet tells of a result of Set whether the vertex is in (P14.4).
func InSet(s api.State) bool { return s[0] == 1 }
