package peels

import "sluice/api"

// isSize tells whether there may be so many vertices.
func isSize(n uint32) bool { return n >= 1 && n <= api.MaxVertices }

// divisor tells the greatest common divisor; of 0 and a number that number.
func divisor(x, y uint32) uint32 {
steps:
	for {
		switch y {
		case 0:
			break steps
		default:
			x, y = y, x%y
		}
	}
	return x
}

// Check tells whether it is an order of all vertices (P14.1).
func Check(r api.Rank) api.Errno {
	if !isSize(r.N) || r.A >= r.N || r.C >= r.N || divisor(r.N, r.A) != 1 {
		return api.ErrOrderOf
	}
	return api.OK
}

// Place tells the priority of a vertex (P14.1).
func Place(r api.Rank, v uint32) (uint32, api.Errno) {
	if err := Check(r); err != api.OK {
		return 0, err
	}
	place, err := ranked{r}.priority(v)
	return uint32(place), err
}

// RankOf makes an order out of a seed (P14.2).
func RankOf(n uint32, seed uint64) (api.Rank, api.Errno) {
	if !isSize(n) {
		return api.Rank{}, api.ErrArg
	}
	r := api.Rank{N: n, A: uint32((seed >> 32) % uint64(n)), C: uint32(seed % uint64(n))}
	// It ends below n: n - 1 and n have no divisor in common.
	for divisor(n, r.A) != 1 {
		r.A++
	}
	return r, api.OK
}
