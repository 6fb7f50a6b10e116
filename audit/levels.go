package audit

import (
	"slices"

	"sluice/api"
)

// Levels audits a result of BFS (P18.3).
func Levels(n, source uint32, edges Edges, s []api.State, room []uint64) (api.Verdict, api.Errno) {
	from := func(u uint32) uint64 { return uint64(u) }
	return levels(n, edges, s, room, from, source)
}

// Reached audits a result of Reach (P18.4).
func Reached(n uint32, edges Edges, s []api.State, room []uint64, sources ...uint32) (api.Verdict, api.Errno) {
	from := func(u uint32) uint64 { return s[u][1] }
	return levels(n, edges, s, room, from, sources...)
}

// levels is what the two have in common. What a vertex hands on to those of the next level is from, of which they take the least.
func levels(n uint32, edges Edges, s []api.State, room []uint64, from func(u uint32) uint64, sources ...uint32) (api.Verdict, api.Errno) {
	q := inquiry{n: n, edges: edges, s: s}
	return judge(q, sourced(n, sources...), room, 2, func(q *inquiry, room []uint64) api.Errno {
		met, least := room[:n], room[n:] // whether an edge comes from one level below; the least that is handed on there
		clear(met)
		fill(least, none)
		err := q.over(func(e api.Edge) {
			u, v := s[e.Src][0], s[e.Dst][0]
			switch {
			case u >= uint64(n):
			case v > u+1:
				q.note(e.Dst, 2)
			case v == u+1:
				met[e.Dst] = 1
				least[e.Dst] = min(least[e.Dst], from(e.Src))
			}
		})
		isBehind := func(v uint32) bool { return s[v][0] > 0 && s[v][0] < uint64(n) }
		q.rule(1, func(v uint32) bool { return isUnfit(n, v, s[v], slices.Contains(sources, v)) })
		q.rule(3, func(v uint32) bool { return isBehind(v) && met[v] == 0 })
		q.rule(4, func(v uint32) bool { return isBehind(v) && met[v] == 1 && least[v] != s[v][1] })
		return err
	})
}

// isUnfit tells whether a vertex's words do not fit together, whatever the edges are.
func isUnfit(n, v uint32, s api.State, isSource bool) bool {
	level, from := s[0], s[1]
	switch {
	case isSource:
		return level != 0 || from != uint64(v)
	case level == none:
		return from != none
	}
	return level == 0 || level >= uint64(n) || from >= uint64(n)
}

// sourced is the error of a constructor that asks for vertices and sources.
func sourced(n uint32, sources ...uint32) api.Errno {
	if err := sized(n); err != api.OK {
		return err
	}
	if len(sources) == 0 || len(sources) > api.MaxSources || slices.Max(sources) >= n {
		return api.ErrSource
	}
	return api.OK
}
