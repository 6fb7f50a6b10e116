package wheel_test

import (
	"fmt"
	"math/rand/v2"
	"slices"
	"testing"

	"sluice/api"
	"sluice/platter"
	"sluice/wheel"
)

// what a manifest may be.
const (
	gone = iota
	fine
	torn    // its seal is broken
	foreign // it is another's
)

// model keeps what is to be on a disk: graphs a and b, runs p and a.
type model struct {
	t      *testing.T
	rnd    *rand.Rand
	d      *platter.Disk
	graphs map[string]*laid
	runs   map[string]*made
}

type laid struct {
	is    int
	w     world
	g     api.Graph
	parts int // of what lies there
	both  bool
}

type made struct {
	is    int
	graph api.Graph
	code  uint32
	round int
	done  bool
	files int
	want  []api.State
	stats api.Stats
}

func (m *model) same(what string, got, want api.Errno) {
	m.t.Helper()
	if got != want {
		m.t.Fatalf("%s: %d, want %d", what, got, want)
	}
}

// looked tells what a look at a manifest must answer.
func looked(is int, none api.Errno) api.Errno {
	return []api.Errno{none, api.OK, api.ErrSeal, api.ErrOther}[is]
}

func programOf(code uint32) mix {
	prog := easy(uint64(code))
	prog.rounds = 4
	return prog
}

func (m *model) plant(name string) {
	l := m.graphs[name]
	w := anyWorld(m.rnd, 12)
	w.g.Name = name
	g, e := wheel.Plant(m.d, bag(m.t, 1<<16), w.g, w.batch, w.fan, wheel.Feed(w.edges))
	if l.is != gone {
		m.same("P12.1", e, api.ErrThere)
		return
	}
	m.same("P12.1", e, api.OK)
	*l = laid{fine, w, g, g.Parts, g.Both}
}

func (m *model) find(name string) {
	g, e := wheel.Find(m.d, name)
	l := m.graphs[name]
	m.same("P12.2", e, looked(l.is, api.ErrGraph))
	if e == api.OK && g != l.g {
		m.t.Fatalf("P12.2: %v, want %v", g, l.g)
	}
	s, e := wheel.Edges(m.d, bag(m.t, 1<<16), name, 16)
	m.same("P12.18", e, looked(l.is, api.ErrGraph))
	if e == api.OK {
		if told, e := drawn(m.t, s.All()); e != api.OK || !slices.Equal(told, byParts(l.g, l.w.edges)) {
			m.t.Fatalf("P12.18: %d", e)
		}
	}
}

func (m *model) info(name string) {
	mark, e := wheel.Info(m.d, name)
	r := m.runs[name]
	m.same("P12.8", e, looked(r.is, api.ErrRun))
	if e == api.OK && (mark.Round != r.round || mark.Done != r.done || mark.Code != r.code || mark.GraphSum != r.graph.Sum || mark.Graph != r.graph.Name) {
		m.t.Fatalf("P12.8: %v, want %v", mark, r)
	}
	want := looked(r.is, api.ErrRun)
	if r.is == fine && !r.done {
		want = api.ErrRun
	}
	states, e := result(m.t, m.d, name)
	m.same("P12.10", e, want)
	if e == api.OK && !slices.Equal(states, r.want) {
		m.t.Fatalf("P12.10: %v", states)
	}
}

// removed tells what a removal must answer.
func removed(is int, none api.Errno) api.Errno {
	if is == torn {
		return api.OK
	}
	return looked(is, none)
}

func (m *model) uproot(name string) {
	l := m.graphs[name]
	want := removed(l.is, api.ErrGraph)
	m.same("P12.3", wheel.Uproot(m.d, name), want)
	if want == api.OK {
		*l = laid{}
	}
}

func (m *model) wipe(name string) {
	r := m.runs[name]
	want := removed(r.is, api.ErrRun)
	m.same("P12.9", wheel.Wipe(m.d, name), want)
	if want == api.OK {
		*r = made{}
	}
}

// spoil breaks a manifest, or puts another's in its place.
func (m *model) spoil(name, tail string, is *int) {
	if *is == gone {
		return
	}
	if m.rnd.IntN(2) == 0 {
		put(m.t, m.d, name+tail, sealed(m.t, "[x]\n")[1:])
		*is = torn
		return
	}
	for other, l := range m.graphs {
		if tail == ".graph" && other != name && l.is == fine {
			put(m.t, m.d, name+tail, text(m.t, m.d, other+tail))
			*is = foreign
		}
	}
	for other, r := range m.runs {
		if tail == ".run" && other != name && r.is == fine {
			put(m.t, m.d, name+tail, text(m.t, m.d, other+tail))
			*is = foreign
		}
	}
}

// play makes the rounds that a run must make, in the model.
func (m *model) play(r *made, l *laid, code uint32, o api.Options, from int) api.Errno {
	states, stats, e := sketched(l.g.N, l.g.Both, l.w.edges, programOf(code), o.Cap)
	round, done := from, e == api.OK
	if o.Every > 0 {
		round = max(from, o.Cap/o.Every*o.Every)
	}
	if done {
		round = stats.Rounds
	} else if from < 0 && o.Every == 0 {
		return e // nothing is left
	}
	*r = made{fine, l.g, code, round, done, l.g.Parts, states, stats}
	return e
}

func (m *model) run(name, graph string, resume bool) {
	l, r := m.graphs[graph], m.runs[name]
	code := 1 + m.rnd.Uint32N(2)
	o := anyOptions(m.rnd)
	o.Run, o.Cap = name, 1+m.rnd.IntN(5)
	g := l.g
	g.Name = graph
	call, what := wheel.Run, "P12.6"
	if resume {
		call, what = wheel.Resume, "P12.7"
	}
	stats, e := call(m.d, bag(m.t, 1<<16), g, programOf(code), code, o)
	want := looked(l.is, api.ErrGraph)
	switch {
	case want != api.OK:
	case !resume && r.is != gone:
		want = api.ErrThere
	case !resume:
		want = m.play(r, l, code, o, -1)
	case r.is != fine:
		want = looked(r.is, api.ErrRun)
	case r.graph.Name != g.Name || r.graph.Sum != g.Sum || r.code != code:
		want = api.ErrOther
	case r.done:
	case r.round >= o.Cap:
		want = api.ErrCap
	default:
		want = m.play(r, l, code, o, r.round)
	}
	m.same(what, e, want)
	if e == api.OK && stats != r.stats {
		m.t.Fatalf("%s: %v, want %v", what, stats, r.stats)
	}
}

// files tells what must lie on the disk.
func (m *model) files() []string {
	var l []string
	for name, g := range m.graphs {
		if g.is == gone {
			continue
		}
		l = append(l, name+".graph")
		for part := range g.parts {
			l = append(l, fmt.Sprintf("%s-e-%04d", name, part))
			if g.both {
				l = append(l, fmt.Sprintf("%s-r-%04d", name, part))
			}
		}
	}
	for name, r := range m.runs {
		if r.is == gone {
			continue
		}
		l = append(l, name+".run")
		for part := range r.files {
			l = append(l, fmt.Sprintf("%s-s-%07d-%04d", name, r.round, part))
		}
	}
	slices.Sort(l)
	return l
}

// P12.1 to P12.11, P12.18: the calls in every order, of names that are there, are not, are broken, are another's; behind each just the files lie there that must.
func TestCallsInEveryOrder(t *testing.T) {
	for seed := range uint64(120) {
		m := &model{t, rand.New(rand.NewPCG(seed, 99)), disk(t), map[string]*laid{"a": {}, "b": {}}, map[string]*made{"p": {}, "a": {}}}
		for range 60 {
			graph, run := []string{"a", "b"}[m.rnd.IntN(2)], []string{"p", "a"}[m.rnd.IntN(2)]
			switch m.rnd.IntN(14) {
			case 0, 1:
				m.plant(graph)
			case 2:
				m.find(graph)
			case 3:
				m.uproot(graph)
			case 4:
				m.wipe(run)
			case 5:
				m.info(run)
			case 6:
				m.spoil(graph, ".graph", &m.graphs[graph].is)
			case 7:
				m.spoil(run, ".run", &m.runs[run].is)
			case 8, 9, 10:
				m.run(run, graph, false)
			default:
				m.run(run, graph, true)
			}
			if have := list(t, m.d); !slices.Equal(have, m.files()) {
				t.Fatalf("world %d: %v, want %v", seed, have, m.files())
			}
		}
	}
}
