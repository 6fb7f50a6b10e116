package audit

import (
	"sluice/api"
	"sluice/peels"
)

// Independent audits a result of Set (P18.7).
func Independent(r api.Rank, edges Edges, s []api.State, room []uint64) (api.Verdict, api.Errno) {
	q := inquiry{n: r.N, edges: edges, s: s}
	return judge(q, errorOf(peels.Set(r)), room, 1, func(q *inquiry, met []uint64) api.Errno {
		clear(met) // 1 where a neighbour that comes ahead is in
		err := q.overNeighbours(r, func(v, ahead uint32) {
			if s[ahead][0] == 1 {
				met[v] = 1
			}
		})
		q.rule(1, func(v uint32) bool { return s[v][0] > 1 })
		q.rule(2, func(v uint32) bool { return s[v][0] == 1 && met[v] == 1 })
		q.rule(3, func(v uint32) bool { return s[v][0] == 0 && met[v] == 0 })
		return err
	})
}

// Coloured audits a result of Colour (P18.8).
func Coloured(r api.Rank, edges Edges, s []api.State, room []uint64) (api.Verdict, api.Errno) {
	q := inquiry{n: r.N, edges: edges, s: s}
	return judge(q, errorOf(peels.Colour(r)), room, 1, func(q *inquiry, taken []uint64) api.Errno {
		clear(taken) // the colours of neighbours that come ahead, as bits; one above 63 leaves none
		err := q.overNeighbours(r, func(v, ahead uint32) {
			if s[v][0] == s[ahead][0] {
				q.note(v, 2)
			}
			taken[v] |= 1 << s[ahead][0]
		})
		q.rule(1, func(v uint32) bool { return s[v][0] >= api.MaxColours })
		q.rule(3, func(v uint32) bool {
			below := uint64(1)<<s[v][0] - 1
			return taken[v]&below != below
		})
		return err
	})
}

// overNeighbours goes over all edges; seen are a vertex and a neighbour that has a lesser priority.
func (q *inquiry) overNeighbours(r api.Rank, see func(v, ahead uint32)) api.Errno {
	return q.over(func(e api.Edge) {
		src, _ := peels.Place(r, e.Src) // it is an order, and a vertex of it
		dst, _ := peels.Place(r, e.Dst)
		switch {
		case src < dst:
			see(e.Dst, e.Src)
		case dst < src:
			see(e.Src, e.Dst)
		}
	})
}
