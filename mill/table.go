package mill

import (
	"iter"

	"sluice/api"
	"sluice/wheel"
)

// Table is a job's result that is read.
type Table struct {
	states *wheel.Readout
	row    func(s api.State) string
}

// Rows begins to read a job's result (P19.6).
func (m *Mill) Rows(job string) (*Table, api.Errno) {
	t, err := m.prepare(job)
	if err != api.OK {
		return nil, err
	}
	if _, err := m.own(t); err != api.OK {
		return nil, err
	}
	states, err := wheel.States(m.volume, m.purse, t.Name, t.Batch)
	if err != api.OK {
		return nil, err
	}
	tell, words := t.row, t.program.Words()
	m.table = &Table{states, func(s api.State) string { return tell(s, words) }}
	return m.table, api.OK
}

// All tells vertices and rows, rising (P19.6).
func (t *Table) All() iter.Seq2[uint32, string] {
	return func(yield func(uint32, string) bool) {
		if t == nil {
			return
		}
		for v, s := range t.states.All() {
			if !yield(v, t.row(s)) {
				return
			}
		}
	}
}

// Code tells OK just if all was told (P19.6).
func (t *Table) Code() api.Errno {
	if t == nil {
		return api.ErrNil
	}
	return t.states.Code()
}

// Close gives back what it holds (P19.6).
func (t *Table) Close() api.Errno {
	if t == nil {
		return api.ErrNil
	}
	return t.states.Close()
}
