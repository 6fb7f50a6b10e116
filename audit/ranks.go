package audit

import (
	"math"

	"sluice/api"
	"sluice/grain"
	"sluice/ranks"
	"sluice/tally"
)

// The words of a place in a room of states, behind the six of an exact sum; those of the results that are looked at stand there too.
const (
	rankAt    = 6
	degreeAt  = 7
	productAt = 7
)

// gather adds a number to the exact sum of a place.
func gather(place *api.State, number float32) {
	*place = tally.Mon(api.MonTally, *place, 0, uint64(grain.Bits(number)))
}

// drawn tells the exact sum of a place, rounded; what is beyond float32 is infinite.
func drawn(place api.State) float32 {
	sum := tally.Sum(place[:api.TallyWords])
	number, err := sum.Round(api.RoundEven)
	if err != api.OK {
		return float32(math.Inf(sum.Sign()))
	}
	return number
}

// pages reckons PageRank anew, in the room.
type pages struct {
	*inquiry
	room             []api.State
	size, damp, base float32
}

// Ranks audits a result of PageRank (P18.13).
func Ranks(n uint32, damp uint32, rounds int, edges Edges, s []api.State, room []api.State) (api.Verdict, api.Errno) {
	q := inquiry{n: n, edges: edges, s: s}
	return judge(q, errorOf(ranks.PageRank(n, damp, rounds)), room, 1, func(q *inquiry, room []api.State) api.Errno {
		size, d := float32(n), grain.Float(damp)
		p := pages{q, room, size, d, float32(1-d) / size}
		err := p.start()
		for round, isOn := 0, true; err == api.OK && isOn && round < rounds; round++ {
			isOn, err = p.round()
		}
		q.rule(1, func(v uint32) bool { return s[v][rankAt] != room[v][rankAt] })
		return err
	})
}

// start gives all vertices the same rank, and counts their out-edges.
func (p pages) start() api.Errno {
	for v := range p.room {
		p.room[v] = api.State{rankAt: uint64(grain.Bits(1 / p.size))}
	}
	return p.over(func(e api.Edge) { p.room[e.Src][degreeAt]++ })
}

// rank tells the rank that a vertex has now.
func (p pages) rank(v uint32) float32 { return grain.Float(uint32(p.room[v][rankAt])) }

// round makes all ranks anew, and tells whether one has changed.
func (p pages) round() (isChanged bool, err api.Errno) {
	share := drawn(p.idle()) / p.size
	err = p.over(func(e api.Edge) {
		gather(&p.room[e.Dst], p.rank(e.Src)/float32(p.room[e.Src][degreeAt]))
	})
	for v, place := range p.room {
		// Each operation is converted: else two of them might be rounded as one.
		rank := float32(p.base + float32(p.damp*float32(drawn(place)+share)))
		next := api.State{rankAt: uint64(grain.Bits(rank)), degreeAt: place[degreeAt]}
		isChanged = isChanged || next[rankAt] != place[rankAt]
		p.room[v] = next
	}
	return isChanged, err
}

// idle tells a place with the sum of the ranks of those without out-edges.
func (p pages) idle() (place api.State) {
	for v := range p.n {
		if p.room[v][degreeAt] == 0 {
			gather(&place, p.rank(v))
		}
	}
	return place
}

// Products audits a result of SpMV (P18.14).
func Products(n uint32, kind api.EdgeKind, seed uint64, edges Edges, s []api.State, room []api.State) (api.Verdict, api.Errno) {
	q := inquiry{n: n, kind: kind, edges: edges, s: s}
	return judge(q, errorOf(ranks.SpMV(n, kind, seed)), room, 1, func(q *inquiry, room []api.State) api.Errno {
		clear(room)
		err := q.over(func(e api.Edge) {
			gather(&room[e.Dst], realWeight(kind, e.W)*grain.Float(ranks.Unit(seed, e.Src)))
		})
		q.rule(1, func(v uint32) bool { return s[v][productAt] != uint64(grain.Bits(drawn(room[v]))) })
		return err
	})
}

// realWeight tells a weight of the kind as a float32.
func realWeight(kind api.EdgeKind, w uint32) float32 {
	switch kind {
	case api.EPlain:
		return 1
	case api.ECounted:
		return float32(int32(w))
	}
	return grain.Float(w)
}
