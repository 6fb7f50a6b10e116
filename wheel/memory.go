package wheel

import (
	"slices"

	"sluice/api"
)

// memoryBatch is how many edges are gone along at a time.
const memoryBatch = 4096

// Memory runs a program over a list of edges without a volume, with so many workers (P12.11).
func Memory(n uint32, both bool, edges []api.Edge, prog api.Program, cap, workers int) ([]api.State, api.Stats, api.Errno) {
	if err := inMemory(n, both, edges, prog, cap, workers); err != api.OK {
		return nil, api.Stats{}, err
	}
	m := &memory{calls: reckonerOf(prog, workers), edges: edges, states: make([]api.State, n), sent: make([]api.Update, min(memoryBatch, len(edges)))}
	if err := m.run(both, cap); err != api.OK {
		return nil, api.Stats{}, err
	}
	return m.states, m.calls.stats, api.OK
}

// inMemory tells whether there can be such a run.
func inMemory(n uint32, both bool, edges []api.Edge, prog api.Program, cap, workers int) api.Errno {
	switch {
	case prog == nil:
		return api.ErrNil
	case n > api.MaxMemory:
		return api.ErrLong
	case n == 0 || !isCap(cap) || !isWorkers(workers):
		return api.ErrArg
	case !isProgram(prog):
		return api.ErrProgram
	case prog.Both() && !both:
		return api.ErrBack
	}
	for _, e := range edges {
		if max(e.Src, e.Dst) >= n {
			return api.ErrVertex
		}
	}
	return api.OK
}

// memory is a run whose states and edges lie in lists.
type memory struct {
	calls  *reckoner
	edges  []api.Edge
	states []api.State
	sent   []api.Update
}

// run makes the rounds. both: the vertices know of their in-edges.
func (m *memory) run(both bool, cap int) api.Errno {
	for _, e := range m.edges {
		m.states[e.Src][0]++
		if both {
			m.states[e.Dst][1]++
		}
	}
	m.calls.start(0, m.states)
	m.calls.fold(0, m.states)
	if err := m.calls.settle(api.OK); err != api.OK {
		return err
	}
	m.calls.folded()
	for range cap {
		done, err := m.round()
		if done || err != api.OK {
			return err
		}
	}
	return api.ErrCap
}

func (m *memory) round() (bool, api.Errno) {
	// What comes to a vertex must not show in what it sends: so it is gathered in another list.
	next := slices.Clone(m.states)
	gather := func(us ...api.Update) api.Errno {
		for _, u := range us {
			next[u.To] = m.calls.gather(next[u.To], u)
		}
		return api.OK
	}
	for batch := range slices.Chunk(m.edges, memoryBatch) {
		m.calls.scatter(0, m.states, batch, false, m.sent, gather)
		if m.calls.prog.Both() {
			m.calls.scatter(0, m.states, batch, true, m.sent, gather)
		}
	}
	if err := m.calls.settle(api.OK); err != api.OK {
		return false, err
	}
	m.states = next
	m.calls.apply(0, m.states)
	m.calls.fold(0, m.states)
	if err := m.calls.settle(api.OK); err != api.OK {
		return false, err
	}
	return m.calls.turn()
}
