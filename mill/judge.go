package mill

import (
	"sluice/api"
	"sluice/purse"
	"sluice/wheel"
)

// Audit says whether a job's result is right, by looking at it and at the graph alone (P19.7).
func (m *Mill) Audit(job string) (api.Verdict, api.Errno) {
	t, err := m.prepare(job)
	if err != api.OK {
		return api.Verdict{}, err
	}
	if t.look == nil {
		return api.Verdict{}, api.ErrKernel
	}
	mark, err := m.own(t)
	if err != api.OK {
		return api.Verdict{}, err
	}
	if !mark.Done {
		return api.Verdict{}, api.ErrRun
	}
	result, err := purse.Take[api.State](m.purse, int(t.graph.N), "mill", "result")
	if err != api.OK {
		return api.Verdict{}, err
	}
	defer result.Give()
	states, err := m.result(t, result.Slice())
	if err != api.OK {
		return api.Verdict{}, err
	}
	stream, err := wheel.Edges(m.volume, m.purse, t.graph.Name, t.Batch)
	if err != api.OK {
		return api.Verdict{}, err
	}
	defer stream.Close()
	return m.judge(t, court{values: t.values, graph: t.graph, edges: stream.All(), states: states})
}

// result reads a run's states to their end, as far as there is room for them. If there are more than the graph has vertices, none is told: it is no result of this graph.
func (m *Mill) result(t *task, into []api.State) ([]api.State, api.Errno) {
	states, err := wheel.States(m.volume, m.purse, t.Name, t.Batch)
	if err != api.OK {
		return nil, err
	}
	defer states.Close()
	told := 0
	for v, s := range states.All() {
		if told++; told <= len(into) {
			into[v] = s
		}
	}
	if told > len(into) {
		told = 0
	}
	return into[:told], states.Code()
}

// judge looks at a result in a room of the kind that the kernel asks for.
func (m *Mill) judge(t *task, c court) (api.Verdict, api.Errno) {
	n := int(t.graph.N)
	if t.places == 0 {
		room, err := purse.Take[api.State](m.purse, n, "mill", "room")
		if err != api.OK {
			return api.Verdict{}, err
		}
		defer room.Give()
		c.room = room.Slice()
		return t.look(c)
	}
	// A lease has at most MaxLength words, and there may be two for each vertex: so they are taken out of the purse as a part of it.
	part, err := m.purse.Part(t.places*n, "mill", "room")
	if err != api.OK {
		return api.Verdict{}, err
	}
	defer part.Close()
	c.words = make([]uint64, t.places*n)
	return t.look(c)
}
