package ranks

import (
	"sluice/api"
	"sluice/grain"
)

// borders is Conductance's program. A state: how many crossing edges lead to the vertex; its out-degree. The aggregate: all crossing edges; the out-degrees inside, and those outside.
type borders struct {
	forwards
	once
	seed uint64
}

// Words is api.Program's.
func (b *borders) Words() int { return 2 }

// Sink is api.Program's.
func (b *borders) Sink() api.Sink { return api.Sink{A: 0, MonA: api.MonAdd} }

// Start is api.Program's.
func (b *borders) Start(_ uint32, d api.Degrees) (api.State, api.Errno) {
	return api.State{0, d.Out}, api.OK
}

// Scatter is api.Program's: an edge that crosses is counted where it leads to.
func (b *borders) Scatter(_ api.Ctl, _ api.State, e api.Edge, back bool) (uint64, uint64, bool, api.Errno) {
	if back || Inside(b.seed, e.Src) == Inside(b.seed, e.Dst) {
		return 0, 0, false, api.OK
	}
	return 1, 0, true, api.OK
}

// Apply is api.Program's.
func (b *borders) Apply(_ api.Ctl, _ api.State, _ uint32, s api.State) (api.State, bool, api.Errno) {
	return api.State{s[0], s[1]}, s[0] != 0, api.OK
}

// Fold is api.Program's.
func (b *borders) Fold(_ api.Ctl, agg api.State, v uint32, s api.State) (api.State, api.Errno) {
	side := 2
	if Inside(b.seed, v) {
		side = 1
	}
	agg[0] += s[0]
	agg[side] += s[1]
	return agg, api.OK
}

// Conductance is the program that counts the edges that cross the border of the set that a seed makes (P15.6).
func Conductance(n uint32, seed uint64) (*Ranker, api.Errno) {
	if !isSize(n) {
		return nil, api.ErrArg
	}
	return &Ranker{&borders{seed: seed}}, api.OK
}

// Crossing tells of a result of Conductance how many crossing edges lead to a vertex (P15.7).
func Crossing(s api.State) uint64 { return s[0] }

// Share tells the conductance, as bits, of the aggregate of its last round (P15.7).
func Share(agg api.State) uint32 {
	least := min(agg[1], agg[2])
	if least == 0 {
		return 0
	}
	return grain.Bits(float32(agg[0]) / float32(least))
}
