package audit

import "sluice/api"

// Sccs audits a result of SCC (P18.10).
func Sccs(n uint32, edges Edges, s []api.State, room []uint64) (api.Verdict, api.Errno) {
	q := inquiry{n: n, edges: edges, s: s}
	return judge(q, sized(n), room, 2, func(q *inquiry, room []uint64) api.Errno {
		k := classes{q, room[:n], room[n:]}
		if err := k.lookWithin(); err != api.OK || !q.verdict.Right {
			return err
		}
		return k.lookBetween()
	})
}

// classes are the vertices by their labels; each look uses the two halves of the room in its own way, for words that are 0 or 1.
type classes struct {
	*inquiry
	one, other []uint64
}

// lookWithin asks rules 1 and 2: by one half who is come to from the vertex that the label names, by the other who comes to it.
func (k classes) lookWithin() api.Errno {
	for v := range k.n {
		k.one[v] = k.isLabel(v)
	}
	copy(k.other, k.one)
	for isMore := true; isMore; {
		isMore = false
		err := k.over(func(e api.Edge) {
			if k.s[e.Src][0] == k.s[e.Dst][0] {
				ahead, back := spread(k.one, e.Src, e.Dst), spread(k.other, e.Dst, e.Src)
				isMore = isMore || ahead || back
			}
		})
		if err != api.OK {
			return err
		}
	}
	k.rule(1, func(v uint32) bool {
		label := k.s[v][0]
		return label > uint64(v) || k.s[label][0] != label
	})
	k.rule(2, func(v uint32) bool { return k.one[v] == 0 || k.other[v] == 0 })
	return api.OK
}

// isLabel is 1 of a vertex that has itself as its label.
func (k classes) isLabel(v uint32) uint64 {
	if k.s[v][0] == uint64(v) {
		return 1
	}
	return 0
}

// spread carries a mark from one vertex to another, and tells whether it is new there.
func spread(marks []uint64, from, to uint32) bool {
	isNew := marks[from] > marks[to]
	if isNew {
		marks[to] = 1
	}
	return isNew
}

// lookBetween asks rule 3: by one half which labels are left, by the other to which of them an edge leads from another that is left.
func (k classes) lookBetween() api.Errno {
	for v := range k.n {
		k.one[v] = k.isLabel(v)
	}
	for isTaken := true; isTaken; {
		clear(k.other)
		err := k.over(func(e api.Edge) {
			from, to := k.s[e.Src][0], k.s[e.Dst][0]
			if from != to && k.one[from] == 1 {
				k.other[to] = 1
			}
		})
		if err != api.OK {
			return err
		}
		isTaken = k.take()
	}
	k.rule(3, func(v uint32) bool { return k.one[k.s[v][0]] == 1 })
	return api.OK
}

// take takes away the labels to which nothing leads, and tells whether there was one.
func (k classes) take() (isTaken bool) {
	for v, left := range k.one {
		if left == 1 && k.other[v] == 0 {
			k.one[v] = 0
			isTaken = true
		}
	}
	return isTaken
}

// TopoLevels audits a result of Topo (P18.11).
func TopoLevels(n uint32, edges Edges, s []api.State, room []uint64) (api.Verdict, api.Errno) {
	q := inquiry{n: n, edges: edges, s: s}
	return judge(q, sized(n), room, 1, func(q *inquiry, met []uint64) api.Errno {
		clear(met) // 1 where an edge carries the level
		err := q.over(func(e api.Edge) {
			u, v := s[e.Src][0], s[e.Dst][0]
			if v != none && (u == none || v <= u) {
				q.note(e.Dst, 2)
			}
			if carries(u, v) {
				met[e.Dst] = 1
			}
		})
		q.rule(1, func(v uint32) bool { return s[v][0] >= uint64(n) && s[v][0] != none })
		q.rule(3, func(v uint32) bool { return s[v][0] > 0 && met[v] == 0 })
		return err
	})
}

// carries tells whether an edge from a vertex of level u is ground enough for the level v.
func carries(u, v uint64) bool {
	if v == none {
		return u == none
	}
	return v > 0 && u == v-1
}
