package audit

import "sluice/api"

// forest has a tree for each component. A node's word is its parent, which is never above it; a root's is itself. So the root is the least of its component.
type forest []uint64

// plant makes each node a tree of its own.
func (f forest) plant() {
	for i := range f {
		f[i] = uint64(i)
	}
}

// root tells the least node of a component, and halves the way to it.
func (f forest) root(i uint64) uint64 {
	for f[i] != i {
		f[i] = f[f[i]]
		i = f[i]
	}
	return i
}

// join makes one component out of two.
func (f forest) join(i, j uint64) {
	i, j = f.root(i), f.root(j)
	f[max(i, j)] = min(i, j)
}

// Labels audits a result of WCC (P18.5).
func Labels(n uint32, edges Edges, s []api.State, room []uint64) (api.Verdict, api.Errno) {
	q := inquiry{n: n, edges: edges, s: s}
	return judge(q, sized(n), room, 1, func(q *inquiry, room []uint64) api.Errno {
		f := forest(room)
		f.plant()
		err := q.over(func(e api.Edge) { f.join(uint64(e.Src), uint64(e.Dst)) })
		q.rule(1, func(v uint32) bool { return s[v][0] != f.root(uint64(v)) })
		return err
	})
}

// TwoColours audits a result of TwoColour (P18.12).
func TwoColours(n uint32, edges Edges, s []api.State, room []uint64) (api.Verdict, api.Errno) {
	q := inquiry{n: n, edges: edges, s: s}
	return judge(q, sized(n), room, 2, func(q *inquiry, room []uint64) api.Errno {
		f := forest(room)
		f.plant()
		err := q.over(func(e api.Edge) {
			f.join(uint64(e.Src), f.turned(e.Dst))
			f.join(uint64(e.Dst), f.turned(e.Src))
		})
		q.rule(1, func(v uint32) bool { return s[v][0] != f.colour(v) })
		return err
	})
}

// turned tells the node of a vertex turned over, in a forest that has two nodes a vertex: an edge joins its one end as it is with its other end turned over.
func (f forest) turned(v uint32) uint64 { return uint64(v) + uint64(len(f)/2) }

// colour tells a vertex's colour. Where a way round is odd, a vertex is joined with itself turned over. Else its component is there twice, and the least vertex, as it is, is below all nodes of the other one.
func (f forest) colour(v uint32) uint64 {
	asItIs, over := f.root(uint64(v)), f.root(f.turned(v))
	switch {
	case asItIs == over:
		return 2
	case asItIs < over:
		return 0
	}
	return 1
}
