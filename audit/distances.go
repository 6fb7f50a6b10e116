package audit

import (
	"cmp"

	"sluice/api"
	"sluice/grain"
)

// distances is the look at a result of SSSP: room has a word a vertex.
type distances struct {
	*inquiry
	source uint32
	room   []uint64
}

// Distances audits a result of SSSP (P18.6).
func Distances(n, source uint32, kind api.EdgeKind, edges Edges, s []api.State, room []uint64) (api.Verdict, api.Errno) {
	made := sourced(n, source)
	if kind != api.EPlain && kind != api.ECounted {
		made = api.ErrArg
	}
	q := inquiry{n: n, kind: kind, edges: edges, s: s}
	return judge(q, made, room, 1, func(q *inquiry, room []uint64) api.Errno {
		d := distances{q, source, room}
		negative := s[source][1]
		d.rule(1, func(v uint32) bool { return s[v][1] != negative || negative > 1 })
		if negative == 1 {
			return d.lookAtCycles()
		}
		return d.lookAtWays()
	})
}

// weight tells an edge's weight.
func (d distances) weight(e api.Edge) int64 {
	if d.kind == api.EPlain {
		return 1
	}
	return int64(int32(e.W))
}

// lookAtWays asks the rules of distances.
func (d distances) lookAtWays() api.Errno {
	clear(d.room) // 1 where a distance has the ground that rule 4 asks for
	err := d.over(func(e api.Edge) {
		u, v := d.s[e.Src], d.s[e.Dst]
		if u[0] == api.Endless {
			return
		}
		switch order := against(int64(u[0]), d.weight(e), int64(v[0])); {
		case order < 0:
			d.note(e.Dst, 3)
		case order == 0 && u[2] < v[2]:
			d.room[e.Dst] = 1
		}
	})
	d.rule(2, func(v uint32) bool {
		s := d.s[v]
		return v == d.source && (s[0] != 0 || s[2] != 0) || s[0] == api.Endless && s[2] != 0
	})
	d.rule(4, func(v uint32) bool {
		return v != d.source && d.s[v][0] != api.Endless && d.room[v] == 0
	})
	return err
}

// against tells how a distance and a weight, added up exactly, stand to another distance. A sum that is no int64 lies on the side to which the weight leads.
func against(distance, weight, other int64) int {
	sum, err := grain.Add(distance, weight)
	if err != api.OK {
		return cmp.Compare(weight, 0)
	}
	return cmp.Compare(sum, other)
}

// lookAtCycles asks for a cycle below zero: there is one just if ways from the source still become shorter when each may have as many edges as there are vertices.
func (d distances) lookAtCycles() api.Errno {
	fill(d.room, api.Endless)
	d.room[d.source] = 0
	for range d.n {
		isShorter, err := d.shorten()
		if err != api.OK {
			return err
		}
		if !isShorter {
			d.note(d.source, 2)
			return api.OK
		}
	}
	return api.OK
}

// shorten goes along each edge once, and tells whether a way has become shorter.
func (d distances) shorten() (isShorter bool, err api.Errno) {
	const lowest = -1 << 62 // what is below has gone round a cycle: it is no distance, and is found again each time
	err = d.over(func(e api.Edge) {
		from, to := int64(d.room[e.Src]), int64(d.room[e.Dst])
		if from == api.Endless || from+d.weight(e) >= to {
			return
		}
		isShorter = true
		if sum := from + d.weight(e); sum >= lowest {
			d.room[e.Dst] = uint64(sum)
		}
	})
	return isShorter, err
}
