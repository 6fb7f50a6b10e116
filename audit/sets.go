package audit

import (
	"math/bits"
	"slices"

	"sluice/api"
	"sluice/ranks"
	"sluice/tally"
)

// Crossings audits a result of Conductance (P18.15).
func Crossings(n uint32, seed uint64, edges Edges, s []api.State, room []uint64) (api.Verdict, api.Errno) {
	q := inquiry{n: n, edges: edges, s: s}
	return judge(q, errorOf(ranks.Conductance(n, seed)), room, 1, func(q *inquiry, count []uint64) api.Errno {
		clear(count)
		err := q.over(func(e api.Edge) {
			if ranks.Inside(seed, e.Src) != ranks.Inside(seed, e.Dst) {
				count[e.Dst]++
			}
		})
		q.rule(1, func(v uint32) bool { return s[v][0] != count[v] })
		return err
	})
}

// Registers audits a result of HyperANF (P18.16).
func Registers(n uint32, rounds int, seed uint64, edges Edges, s []api.State, room []uint64) (api.Verdict, api.Errno) {
	q := inquiry{n: n, edges: edges, s: s}
	return judge(q, errorOf(ranks.HyperANF(n, rounds, seed)), room, 2, func(q *inquiry, room []uint64) api.Errno {
		now, next := room[:n], room[n:]
		for v := range n {
			now[v] = ownSet(ranks.Mix(seed, v))
		}
		for range rounds {
			copy(next, now)
			err := q.over(func(e api.Edge) { next[e.Dst] = united(next[e.Dst], now[e.Src]) })
			if err != api.OK {
				return err
			}
			if slices.Equal(now, next) {
				break
			}
			now, next = next, now
		}
		q.rule(1, func(v uint32) bool { return s[v][0] != now[v] })
		return api.OK
	})
}

// ownSet tells the register set of a vertex by itself, out of what is mixed of it.
func ownSet(mixed uint64) uint64 {
	const width, greatest = 4, 15
	number := min(1+bits.TrailingZeros64(mixed>>width), greatest)
	return uint64(number) << (width * (mixed % 16))
}

// united tells the register set with the greater number of each two.
func united(one, other uint64) uint64 {
	return tally.Mon(api.MonNibbles, api.State{one}, 0, other)[0]
}
