package audit

import "sluice/api"

// peeling takes vertices away, those with the fewest edges first.
type peeling struct {
	*inquiry
	degree []uint64 // edges to others that are left
	core   []uint64 // the core number; none, while the vertex is left
}

// Cores audits a result of Core (P18.9).
func Cores(n uint32, edges Edges, s []api.State, room []uint64) (api.Verdict, api.Errno) {
	q := inquiry{n: n, edges: edges, s: s}
	return judge(q, sized(n), room, 2, func(q *inquiry, room []uint64) api.Errno {
		p := peeling{q, room[:n], room[n:]}
		err := p.peel()
		q.rule(1, func(v uint32) bool { return s[v][0] != p.core[v] })
		return err
	})
}

// peel finds all core numbers.
func (p peeling) peel() api.Errno {
	fill(p.core, none)
	number := uint64(0)
shells:
	for {
		if err := p.count(); err != api.OK {
			return err
		}
		for {
			if p.take(number) {
				continue shells
			}
			least, isThere := p.least()
			if !isThere {
				return api.OK
			}
			number = least
		}
	}
}

// count counts the edges between vertices that are left.
func (p peeling) count() api.Errno {
	clear(p.degree)
	return p.over(func(e api.Edge) {
		if e.Src != e.Dst && p.core[e.Src] == none && p.core[e.Dst] == none {
			p.degree[e.Src]++
			p.degree[e.Dst]++
		}
	})
}

// take takes away who has no more edges than that, and tells whether there was one: then others may have lost some.
func (p peeling) take(number uint64) (isTaken bool) {
	for v, degree := range p.degree {
		if p.core[v] == none && degree <= number {
			p.core[v] = number
			isTaken = true
		}
	}
	return isTaken
}

// least tells the fewest edges of those that are left, if there are any.
func (p peeling) least() (number uint64, isThere bool) {
	number = none
	for v, degree := range p.degree {
		if p.core[v] == none {
			number = min(number, degree)
			isThere = true
		}
	}
	return number, isThere
}
