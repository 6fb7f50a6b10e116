package loom

import "sluice/api"

// Woven is a program of a code (P11.11). Nothing in it changes, so several goroutines may use it.
type Woven struct {
	code  api.Code
	fuel  int
	hands [api.Hands]func(f api.Frame, fuel int) (api.Effect, int, api.Errno)
}

// Weave makes a program of a code (P11.11).
func Weave(c api.Code, fuel int) (*Woven, api.Errno) {
	if fuel < 1 || fuel > api.MaxFuel {
		return nil, api.ErrArg
	}
	t := newTable()
	if !t.takes(&c) {
		return nil, api.ErrCode
	}
	w := &Woven{code: c, fuel: fuel}
	for hand := range w.hands {
		w.hands[hand] = newHandler(t, &w.code, hand).run
	}
	w.code.Hands = [api.Hands][]api.Ins{} // the handlers have steps of their own: what becomes of c's lists is nothing to them
	return w, api.OK
}

// isThere tells whether Weave has made it.
func (w *Woven) isThere() bool { return w != nil && w.fuel > 0 }

// run runs a handler.
func (w *Woven) run(hand int, f api.Frame) (api.Effect, api.Errno) {
	if !w.isThere() {
		return api.Effect{}, api.ErrNil
	}
	x, _, err := w.hands[hand](f, w.fuel)
	return x, err
}

// Words is api.Program's.
func (w *Woven) Words() int {
	if !w.isThere() {
		return 0
	}
	return w.code.Words
}

// Both is api.Program's.
func (w *Woven) Both() bool { return w.isThere() && w.code.Both }

// Sink is api.Program's.
func (w *Woven) Sink() api.Sink {
	if !w.isThere() {
		return api.Sink{}
	}
	return w.code.Sink
}

// Start is api.Program's.
func (w *Woven) Start(v uint32, d api.Degrees) (api.State, api.Errno) {
	x, err := w.run(api.HandStart, api.Frame{Vertex: v, Degrees: d})
	return x.State, err
}

// Scatter is api.Program's.
func (w *Woven) Scatter(c api.Ctl, s api.State, e api.Edge, back bool) (a, b uint64, send bool, err api.Errno) {
	x, err := w.run(api.HandScatter, api.Frame{State: s, Ctl: c, Edge: e, Back: back})
	return x.A, x.B, x.Flag, err
}

// Apply is api.Program's.
func (w *Woven) Apply(c api.Ctl, agg api.State, v uint32, s api.State) (next api.State, changed bool, err api.Errno) {
	x, err := w.run(api.HandApply, api.Frame{State: s, Agg: agg, Ctl: c, Vertex: v})
	return x.State, x.Flag, err
}

// Fold is api.Program's.
func (w *Woven) Fold(c api.Ctl, agg api.State, v uint32, s api.State) (api.State, api.Errno) {
	x, err := w.run(api.HandFold, api.Frame{State: s, Agg: agg, Ctl: c, Vertex: v})
	return x.Agg, err
}

// Turn is api.Program's.
func (w *Woven) Turn(c api.Ctl, agg api.State, changed uint64, round int) (next api.Ctl, done bool, err api.Errno) {
	x, err := w.run(api.HandTurn, api.Frame{Agg: agg, Ctl: c, Changed: changed, Round: round})
	return x.Ctl, x.Flag, err
}
