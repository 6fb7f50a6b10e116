package peels

import "sluice/api"

// cores is the program of Core: of what is left, the vertices that have the fewest edges are taken away, round after round. Word 0: the core number; word 2: the edges that are left; word 3: how many were lost; word 4: ends of loops.
//
// The ctl: word 0: 0 in the first round, in which loops alone are found; word 1: vertices with no more edges than that are taken away. The aggregate: how many wait, the fewest edges among them, how many were taken away in this round.
type cores struct{}

func (p cores) words() int { return 5 }

func (p cores) both() bool { return true }

func (p cores) sink() api.Sink { return api.Sink{A: 3, MonA: api.MonAdd, B: 4, MonB: api.MonAdd} }

func (p cores) start(_ uint32, d api.Degrees) (api.State, api.Errno) {
	return api.State{2: d.Out + d.In}, api.OK
}

// isFirst tells whether the ctl is that of the first round.
func (p cores) isFirst(c api.Ctl) bool { return c[0] == 0 }

// scatter: the degrees that a vertex starts with count loops too; only edges can tell which they are.
func (p cores) scatter(c api.Ctl, s api.State, e api.Edge, _ bool) (a, b uint64, send bool, err api.Errno) {
	switch {
	case e.Src != e.Dst && s[1] == news:
		return 1, 0, true, api.OK
	case e.Src == e.Dst && p.isFirst(c):
		return 0, 1, true, api.OK
	}
	return 0, 0, false, api.OK
}

func (p cores) apply(c api.Ctl, _ uint32, s api.State) (api.State, bool, api.Errno) {
	left := s[2] - s[3] - s[4]
	next := api.State{s[0], told, left}
	if s[1] != waiting {
		return next, false, api.OK
	}
	if !p.isFirst(c) && left <= c[1] {
		return api.State{c[1], news, left}, true, api.OK
	}
	next[1] = waiting
	return next, p.isFirst(c), api.OK
}

func (p cores) fold(agg, s api.State) (api.State, api.Errno) {
	switch s[1] {
	case waiting:
		if agg[0] == 0 || s[2] < agg[1] {
			agg[1] = s[2]
		}
		agg[0]++
	case news:
		agg[2]++
	}
	return agg, api.OK
}

// turn: the bound rises only behind a round that took nothing away, since what a vertex has lost by one that was is not known before the next.
func (p cores) turn(c api.Ctl, agg api.State) (api.Ctl, bool, api.Errno) {
	if agg[0] == 0 {
		return c, true, api.OK
	}
	if agg[2] == 0 && (agg[1] > c[1] || p.isFirst(c)) {
		c[1] = agg[1]
	}
	c[0] = 1
	return c, false, api.OK
}

// Core makes the program of core numbers (P14.3).
func Core() *Peel { return &Peel{cores{}} }

// CoreOf tells of a result of Core the vertex's core number (P14.4).
func CoreOf(s api.State) uint64 { return s[0] }
