package sieve

import "sluice/api"

// Stages tells how many stages of fan streams tell k parts apart (P9.4).
func Stages(k, fan int) (int, api.Errno) {
	switch {
	case k < 1 || k > api.MaxParts:
		return 0, api.ErrCut
	case fan < 2 || fan > api.MaxFan:
		return 0, api.ErrFan
	}
	stages := 0
	for apart := 1; apart < k; apart *= fan {
		stages++
	}
	return stages, api.OK
}

// Shuffle lays records out by their parts (P9.5).
func Shuffle[T any](a, b []T, k, fan int, part func(T) int) (in []T, starts []int, e api.Errno) {
	_, err := Stages(k, fan)
	switch {
	case err != api.OK:
		return nil, nil, err
	case part == nil:
		return nil, nil, api.ErrArg
	case len(b) < len(a):
		return nil, nil, api.ErrTight
	}
	// All parts are asked for ahead of the first record's move, since a wrong one must leave a and b as they were.
	starts, steady := census(a, k, part)
	if steady {
		// Neither list lends its spare room: who appends to the answer must not write there.
		in, steady = deal(a[:len(a):len(a)], b[:len(a):len(a)], starts, fan, part)
	}
	if !steady {
		return nil, nil, api.ErrPart
	}
	return in, starts, api.OK
}

// census tells where each part's records will begin, and behind them how many there are; false, if a record is of no part.
func census[T any](a []T, k int, part func(T) int) ([]int, bool) {
	starts := make([]int, k+1)
	for _, t := range a {
		p := part(t)
		if p < 0 || p >= k {
			return nil, false
		}
		starts[p+1]++
	}
	for p := range k {
		starts[p+1] += starts[p]
	}
	return starts, true
}

// deal moves records between a and b, a stage for each digit of a part's number, the lowest first; a stage keeps the order of what has the same digit, so that behind the last one all digits count. It tells in which list they are; false, if part answers otherwise than the census was told and a record has no place.
func deal[T any](a, b []T, starts []int, fan int, part func(T) int) ([]T, bool) {
	from, to, steady := a, b, true
digits:
	for low := 1; low < len(starts)-1; low *= fan {
		next := openings(starts, low, fan)
		for _, t := range from {
			digit := part(t) / low % fan
			if digit < 0 || next[digit] == len(to) {
				steady = false
				break digits
			}
			to[next[digit]] = t
			next[digit]++
		}
		from, to = to, from
	}
	return from, steady
}

// openings tells where the records of each digit begin in what a stage lays out: how many there are follows from the parts, without asking for a record's again.
func openings(starts []int, low, fan int) [api.MaxFan]int {
	var counts, opens [api.MaxFan]int
	for p := range len(starts) - 1 {
		counts[p/low%fan] += starts[p+1] - starts[p]
	}
	for digit := 1; digit < fan; digit++ {
		opens[digit] = opens[digit-1] + counts[digit-1]
	}
	return opens
}
