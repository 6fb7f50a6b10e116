package ranks

import (
	"sluice/api"
	"sluice/grain"
)

// products is SpMV's program. A state: the sum of what has come; the vector's number; the product's.
type products struct {
	forwards
	gathered
	once
	noAggregate
	kind api.EdgeKind
	seed uint64
}

// Start is api.Program's.
func (p *products) Start(v uint32, _ api.Degrees) (api.State, api.Errno) {
	return api.State{6: uint64(Unit(p.seed, v))}, api.OK
}

// weight tells an edge's weight.
func (p *products) weight(e api.Edge) float32 {
	switch p.kind {
	case api.ECounted:
		return float32(int32(e.W))
	case api.EReal:
		return grain.Float(e.W)
	}
	return 1
}

// Scatter is api.Program's.
func (p *products) Scatter(_ api.Ctl, s api.State, e api.Edge, back bool) (a, b uint64, send bool, err api.Errno) {
	if back {
		return 0, 0, false, api.OK
	}
	return p.sent(p.weight(e) * grain.Float(uint32(s[6])))
}

// Apply is api.Program's.
func (p *products) Apply(_ api.Ctl, _ api.State, _ uint32, s api.State) (api.State, bool, api.Errno) {
	number := grain.Bits(p.total(s))
	return api.State{6: s[6], 7: uint64(number)}, number != 0, api.OK
}

// SpMV is the program of the transposed matrix times the vector that a seed makes (P15.4).
func SpMV(n uint32, kind api.EdgeKind, seed uint64) (*Ranker, api.Errno) {
	if !isSize(n) || kind < api.EPlain || kind > api.EReal {
		return nil, api.ErrArg
	}
	return &Ranker{&products{kind: kind, seed: seed}}, api.OK
}

// Product tells of a result of SpMV a vertex's number, as bits (P15.5).
func Product(s api.State) uint32 { return uint32(s[7]) }
