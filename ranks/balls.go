package ranks

import (
	"math/bits"

	"sluice/api"
	"sluice/grain"
	"sluice/tally"
)

const (
	numbers  = 16 // of a register set
	width    = 4  // bits of each
	greatest = 1<<width - 1
)

// apart tells the numbers of a register set.
func apart(set uint64) (l [numbers]uint64) {
	for i := range l {
		l[i] = set >> (width * i) & greatest
	}
	return l
}

// single tells the register set of a single vertex, by the number that is mixed of it: few have many 0 bits in a row, so the greatest of many tells about how many there are.
func single(z uint64) uint64 {
	zeros := bits.TrailingZeros64(z >> width)
	return uint64(min(1+zeros, greatest)) << (width * (z % numbers))
}

// balls is HyperANF's program. A state: the register set; the greatest of what has come; 1, if the set has changed in the last round. The aggregate: the sum of all sizes.
type balls struct {
	forwards
	exact
	paced
	seed uint64
}

// Words is api.Program's.
func (b *balls) Words() int { return 3 }

// Sink is api.Program's: gathered apart, so that Apply can tell whether the set changes.
func (b *balls) Sink() api.Sink { return api.Sink{A: 1, MonA: api.MonNibbles} }

// Start is api.Program's.
func (b *balls) Start(v uint32, _ api.Degrees) (api.State, api.Errno) {
	return api.State{single(Mix(b.seed, v)), 0, 1}, api.OK
}

// Scatter is api.Program's: once is enough, since nothing that was sent is forgotten.
func (b *balls) Scatter(_ api.Ctl, s api.State, _ api.Edge, back bool) (uint64, uint64, bool, api.Errno) {
	if back || s[2] == 0 {
		return 0, 0, false, api.OK
	}
	return s[0], 0, true, api.OK
}

// Apply is api.Program's.
func (b *balls) Apply(_ api.Ctl, _ api.State, _ uint32, s api.State) (api.State, bool, api.Errno) {
	next := api.State{tally.Mon(api.MonNibbles, s, 0, s[1])[0]}
	if next[0] == s[0] {
		return next, false, api.OK
	}
	next[2] = 1
	return next, true, api.OK
}

// Fold is api.Program's.
func (b *balls) Fold(_ api.Ctl, agg api.State, _ uint32, s api.State) (api.State, api.Errno) {
	return b.plus(agg, Size(s)), api.OK
}

// HyperANF is the program that counts, about, which vertices lead to which in how many steps (P15.8).
func HyperANF(n uint32, rounds int, seed uint64) (*Ranker, api.Errno) {
	if !isSize(n) || !isPace(rounds) {
		return nil, api.ErrArg
	}
	return &Ranker{&balls{paced: paced{rounds}, seed: seed}}, api.OK
}

// Size tells of a state of HyperANF about how many vertices lead to it, as bits (P15.9).
func Size(s api.State) uint32 {
	const scale = 172.288
	parts := 0 // of which 2^15 make 1: there are so few that a float32 holds them
	for _, r := range apart(s[0]) {
		parts += 1 << (greatest - r)
	}
	return grain.Bits(float32(scale) / (float32(parts) / (1 << greatest)))
}

// Pairs tells the estimate of all pairs, as bits, of an aggregate of it (P15.9).
func Pairs(agg api.State) uint32 { return grain.Bits(exact{}.total(agg)) }
