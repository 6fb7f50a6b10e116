package loom

import "sluice/api"

// handler is one of a code's, ready to be run.
type handler struct {
	code  *api.Code
	hand  int
	steps []step
}

func newHandler(t *table, c *api.Code, hand int) *handler {
	return &handler{c, hand, t.steps(c.Hands[hand])}
}

// steps looks the functions of instructions up.
func (t *table) steps(list []api.Ins) []step {
	steps := make([]step, len(list))
	for i, ins := range list {
		steps[i] = step{t[ins.Op].do, ins.Arg}
	}
	return steps
}

// run is P11.3's, of a code that Check takes and a fuel that may be.
func (h *handler) run(f api.Frame, fuel int) (api.Effect, int, api.Errno) {
	m := &machine{code: h.code, frame: f}
	if h.hand == api.HandStart {
		m.frame.State = api.State{}
	}
	if err := m.work(h.steps, fuel); err != api.OK {
		return api.Effect{}, m.steps, err
	}
	leave := [api.Hands]func() api.Effect{m.leaveState, m.leaveMessage, m.leaveChange, m.leaveAgg, m.leaveCtl}
	return leave[h.hand](), m.steps, api.OK
}

// leaveState is what Start leaves.
func (m *machine) leaveState() api.Effect {
	var x api.Effect
	copy(x.State[:], m.frame.State[:m.code.Words])
	return x
}

// leaveMessage is what Scatter leaves.
func (m *machine) leaveMessage() api.Effect {
	x := api.Effect{Flag: m.pop() != 0}
	if m.code.MsgB != api.WordNone {
		x.B = m.pop()
	}
	x.A = m.pop()
	return x
}

// leaveChange is what Apply leaves.
func (m *machine) leaveChange() api.Effect {
	x := m.leaveState()
	x.Flag = m.pop() != 0
	return x
}

// leaveAgg is what Fold leaves.
func (m *machine) leaveAgg() api.Effect { return api.Effect{Agg: m.frame.Agg} }

// leaveCtl is what Turn leaves.
func (m *machine) leaveCtl() api.Effect {
	return api.Effect{Ctl: m.frame.Ctl, Flag: m.pop() != 0}
}

// results tells the kinds that a handler's stack has at a halt.
func results(c *api.Code, hand int) []api.WordKind {
	switch {
	case hand == api.HandScatter && c.MsgB == api.WordNone:
		return []api.WordKind{c.MsgA, api.WordBool}
	case hand == api.HandScatter:
		return []api.WordKind{c.MsgA, c.MsgB, api.WordBool}
	case hand == api.HandApply || hand == api.HandTurn:
		return []api.WordKind{api.WordBool}
	}
	return nil
}
