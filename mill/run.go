package mill

import (
	"strconv"
	"strings"

	"sluice/api"
	"sluice/purse"
	"sluice/wheel"
)

// Run does a job, a text (P19.4).
func (m *Mill) Run(job string) (api.Outcome, api.Errno) { return m.perform(job, wheel.Run) }

// Resume goes on with one (P19.5).
func (m *Mill) Resume(job string) (api.Outcome, api.Errno) { return m.perform(job, wheel.Resume) }

// runner is how layer 12 makes the rounds of a run: from the beginning, or from where it stands.
type runner func(v api.Volume, p *purse.Purse, g api.Graph, prog api.Program, code uint32, o api.Options) (api.Stats, api.Errno)

// perform does a job. What the kernel tells of the whole stands in the run's manifest.
func (m *Mill) perform(job string, run runner) (api.Outcome, api.Errno) {
	t, err := m.prepare(job)
	if err != api.OK {
		return api.Outcome{}, err
	}
	stats, err := run(m.volume, m.purse, t.graph, t.program, t.number(), t.options())
	if err != api.OK {
		return api.Outcome{}, err
	}
	mark, err := wheel.Info(m.volume, t.Name)
	if err != api.OK {
		return api.Outcome{}, err
	}
	tells := t.tells(mark.Agg)
	return api.Outcome{Stats: stats, Tells: tells, Text: outcomeText(t.Kernel, stats, tells)}, api.OK
}

func outcomeText(kernel string, s api.Stats, tells [2]uint64) string {
	return strings.Join([]string{
		kernel,
		"rounds", strconv.Itoa(s.Rounds),
		"edges", decimal(s.Edges),
		"updates", decimal(s.Updates),
		"changed", decimal(s.Changed),
		"tells", decimal(tells[0]), decimal(tells[1]),
	}, " ")
}

// Wipe removes a run; Uproot removes a graph (P19.8).
func (m *Mill) Wipe(run string) api.Errno { return m.remove(run, wheel.Wipe) }

// Uproot removes a graph (P19.8).
func (m *Mill) Uproot(graph string) api.Errno { return m.remove(graph, wheel.Uproot) }

// remove has what a name stands for taken off the volume.
func (m *Mill) remove(name string, take func(v api.Volume, name string) api.Errno) api.Errno {
	if err := m.begin(); err != api.OK {
		return err
	}
	return take(m.volume, name)
}
