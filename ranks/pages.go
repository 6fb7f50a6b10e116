package ranks

import (
	"sluice/api"
	"sluice/grain"
)

// pages is PageRank's program. A state: the sum of what has come; the rank; the out-degree. The aggregate: the sum of the ranks of those without out-edges.
type pages struct {
	forwards
	gathered
	paced
	size float32 // how many vertices there are
	damp float32
	base float32 // the rank of a vertex to which nothing comes
}

// Start is api.Program's.
func (p *pages) Start(_ uint32, d api.Degrees) (api.State, api.Errno) {
	return p.state(1/p.size, d.Out), api.OK
}

// state tells a state into which nothing has come.
func (p *pages) state(rank float32, degree uint64) api.State {
	return api.State{6: uint64(grain.Bits(rank)), 7: degree}
}

// Scatter is api.Program's.
func (p *pages) Scatter(_ api.Ctl, s api.State, _ api.Edge, back bool) (a, b uint64, send bool, err api.Errno) {
	if back {
		return 0, 0, false, api.OK
	}
	return p.sent(grain.Float(Rank(s)) / float32(s[7]))
}

// Apply is api.Program's.
func (p *pages) Apply(_ api.Ctl, agg api.State, _ uint32, s api.State) (api.State, bool, api.Errno) {
	next := p.state(p.rank(p.total(s), p.total(agg)), s[7])
	return next, Rank(next) != Rank(s), api.OK
}

// rank tells a new rank by what has come, and by what those without out-edges give to all. Each operation is converted, so that none is fused with the next.
func (p *pages) rank(came, given float32) float32 {
	share := float32(given / p.size)
	sum := float32(came + share)
	return float32(p.base + float32(p.damp*sum))
}

// Fold is api.Program's.
func (p *pages) Fold(_ api.Ctl, agg api.State, _ uint32, s api.State) (api.State, api.Errno) {
	if s[7] != 0 {
		return agg, api.OK
	}
	return p.plus(agg, Rank(s)), api.OK
}

// PageRank is the program of so many rounds at most (P15.2).
func PageRank(n uint32, damp uint32, rounds int) (*Ranker, api.Errno) {
	d := grain.Float(damp)
	switch {
	case !isSize(n) || !isPace(rounds):
		return nil, api.ErrArg
	case !(d > 0 && d < 1): // so that no number is refused too
		return nil, api.ErrDamp
	}
	size := float32(n)
	base := float32(1-d) / size
	return &Ranker{&pages{paced: paced{rounds}, size: size, damp: d, base: base}}, api.OK
}

// Rank tells of a result of PageRank a vertex's rank, as bits (P15.3).
func Rank(s api.State) uint32 { return uint32(s[6]) }
