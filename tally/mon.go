package tally

import "sluice/api"

// gathering is how a monoid takes in what comes.
type gathering struct {
	words  int // of the state that it takes
	gather func(s api.State, at int, y uint64) api.State
}

// Mon is doc/00-core.md's Mon: what comes (y) is gathered into word at of a state (P2.3).
func Mon(m api.Monoid, s api.State, at int, y uint64) api.State {
	monoids := [...]gathering{
		api.MonNone: {1, func(s api.State, at int, y uint64) api.State { return s }},
		api.MonMin:  {1, func(s api.State, at int, y uint64) api.State { s[at] = min(s[at], y); return s }},
		api.MonMax:  {1, func(s api.State, at int, y uint64) api.State { s[at] = max(s[at], y); return s }},
		api.MonMinInt: {1, func(s api.State, at int, y uint64) api.State {
			s[at] = uint64(min(int64(s[at]), int64(y)))
			return s
		}},
		api.MonMaxInt: {1, func(s api.State, at int, y uint64) api.State {
			s[at] = uint64(max(int64(s[at]), int64(y)))
			return s
		}},
		api.MonAdd:     {1, func(s api.State, at int, y uint64) api.State { s[at] += y; return s }},
		api.MonAnd:     {1, func(s api.State, at int, y uint64) api.State { s[at] &= y; return s }},
		api.MonOr:      {1, func(s api.State, at int, y uint64) api.State { s[at] |= y; return s }},
		api.MonNibbles: {1, func(s api.State, at int, y uint64) api.State { s[at] = greaterNibbles(s[at], y); return s }},
		api.MonTally: {api.TallyWords, func(s api.State, at int, y uint64) api.State {
			sum := Put(Sum(s[at:at+api.TallyWords]), uint32(y))
			copy(s[at:], sum[:])
			return s
		}},
	}
	if m < 0 || int(m) >= len(monoids) || at < 0 || at > api.StateWords-monoids[m].words {
		return s
	}
	return monoids[m].gather(s, at, y)
}

// greaterNibbles tells, of sixteen numbers of four bits, the greater of each.
func greaterNibbles(x, y uint64) uint64 {
	const even = 0x0f0f0f0f0f0f0f0f // every other one, so that each has four bits of room above it
	return greaterSpread(x&even, y&even) | greaterSpread(x>>4&even, y>>4&even)<<4
}

func greaterSpread(x, y uint64) uint64 {
	const room = 0x1010101010101010
	notBelow := (x | room) - y // no number borrows from the next: the bit above each stays just where x's is not below y's
	notBelow &= room
	takeX := notBelow - notBelow>>4
	return x&takeX | y&^takeX
}
