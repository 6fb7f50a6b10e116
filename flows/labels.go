package flows

import (
	"math"

	"sluice/api"
)

// labels is WCC's program. A state: the label, the least vertex that was heard of; the round in which it was; the least of what has come.
type labels struct{ pace }

// Words is api.Program's.
func (l labels) Words() int { return 3 }

// Both is api.Program's.
func (l labels) Both() bool { return true }

// Sink is api.Program's: gathered apart, so that Apply can tell whether the label changes.
func (l labels) Sink() api.Sink { return api.Sink{A: 2, MonA: api.MonMin} }

// Start is api.Program's.
func (l labels) Start(v uint32, _ api.Degrees) (api.State, api.Errno) {
	return api.State{uint64(v), 0, api.Unreached}, api.OK
}

// Scatter is api.Program's.
func (l labels) Scatter(c api.Ctl, s api.State, _ api.Edge, _ bool) (a, b uint64, send bool, err api.Errno) {
	if !l.isNews(c, s[1]) {
		return 0, 0, false, api.OK
	}
	return s[0], 0, true, api.OK
}

// Apply is api.Program's.
func (l labels) Apply(c api.Ctl, _ api.State, _ uint32, s api.State) (api.State, bool, api.Errno) {
	less := s[2] < s[0]
	if less {
		s[0], s[1] = s[2], l.round(c)
	}
	return s, less, api.OK
}

// Fold is api.Program's: how many are their own label.
func (l labels) Fold(_ api.Ctl, agg api.State, v uint32, s api.State) (api.State, api.Errno) {
	if s[0] == uint64(v) {
		agg[0]++
	}
	return agg, api.OK
}

// WCC finds the components, directions not looked at (P13.4).
func WCC(n uint32) (*Flow, api.Errno) {
	if !isSize(n) {
		return nil, api.ErrArg
	}
	return &Flow{labels{pace{n}}}, api.OK
}

// Label tells of a result of WCC the component's least vertex (P13.5).
func Label(s api.State) (uint32, bool) {
	if s[0] > math.MaxUint32 {
		return 0, false
	}
	return uint32(s[0]), true
}
