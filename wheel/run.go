package wheel

import (
	"maps"

	"sluice/api"
	"sluice/purse"
	"sluice/reel"
	"sluice/roster"
)

// Run runs a program over a graph; code is the program's own number (P12.6).
func Run(v api.Volume, p *purse.Purse, g api.Graph, prog api.Program, code uint32, o api.Options) (api.Stats, api.Errno) {
	r, err := runnerOf(v, p, g, prog, code, o)
	if err != api.OK {
		return api.Stats{}, err
	}
	if err := r.own.absent(v); err != api.OK {
		return api.Stats{}, err
	}
	return r.run(p, r.start)
}

// Resume goes on from a run's last checkpoint (P12.7).
func Resume(v api.Volume, p *purse.Purse, g api.Graph, prog api.Program, code uint32, o api.Options) (api.Stats, api.Errno) {
	r, err := runnerOf(v, p, g, prog, code, o)
	if err != api.OK {
		return api.Stats{}, err
	}
	m, err := Info(v, o.Run)
	switch {
	case err != api.OK:
		return api.Stats{}, err
	case m.Graph != g.Name || m.GraphSum != g.Sum || m.Code != code || m.Words != r.calls.words:
		return api.Stats{}, api.ErrOther
	}
	r.standAt(m)
	switch {
	case m.Done:
		r.own.sweep(v, r.named)
		return m.Stats, api.OK
	case m.Round >= o.Cap:
		return api.Stats{}, api.ErrCap
	}
	return r.run(p, r.goOn)
}

// runner is a run under way.
type runner struct {
	v     api.Volume
	own   kin
	shelf *shelf
	tape  *tape
	calls *reckoner
	code  uint32
	o     api.Options
	files []api.FileMark          // where the states are, a file a part
	named map[string]api.FileMark // what the run's manifest names; where it can't be known which one stands, what both do
	heard uint32                  // the sum of the update files of this round, as they were read
	desk
}

// desk is all buffers of a run.
type desk struct {
	states  []api.State // of one part
	edges   []api.Edge
	sent    []api.Update
	a, b    []api.Update // of the shuffle
	reading []byte
	writing []byte
}

// runnerOf is how Run and Resume begin: what is asked of both.
func runnerOf(v api.Volume, p *purse.Purse, g api.Graph, prog api.Program, code uint32, o api.Options) (*runner, api.Errno) {
	switch {
	case v == nil || p == nil || prog == nil:
		return nil, api.ErrNil
	case !isOptions(o):
		return nil, api.ErrArg
	case !isProgram(prog):
		return nil, api.ErrProgram
	}
	m, err := graphMark(v, g.Name)
	switch {
	case err != api.OK:
		return nil, err
	case m.Graph != g:
		return nil, api.ErrOther
	case prog.Both() && !g.Both:
		return nil, api.ErrBack
	case greatest(g) > api.MaxLength:
		return nil, api.ErrLong
	}
	files, err := shelfOf(v, m)
	if err != api.OK {
		return nil, err
	}
	states, err := tapeOf(v, o.Run, prog.Words())
	if err != api.OK {
		return nil, err
	}
	return &runner{v: v, own: ofRun(o.Run), shelf: files, tape: states, calls: reckonerOf(prog, o.Workers), code: code, o: o, named: namesOf(nil)}, api.OK
}

// standAt has the run stand where a manifest says.
func (r *runner) standAt(m api.RunMark) {
	r.calls.ctl, r.calls.agg, r.calls.stats = m.Ctl, m.Agg, m.Stats
	r.files, r.named = m.Files, namesOf(m.Files)
}

// run begins and makes the rounds. With an error what it has made is cleared away, but for what a manifest names.
func (r *runner) run(p *purse.Purse, begin func() api.Errno) (stats api.Stats, err api.Errno) {
	if p.Left() < greatest(r.shelf.graph)*r.calls.words+r.o.Batch {
		return api.Stats{}, api.ErrSpent
	}
	if err := r.own.sweep(r.v, r.named); err != api.OK {
		return api.Stats{}, err
	}
	leased := &kit{purse: p}
	defer leased.giveBack()
	r.desk = deskOf(leased, greatest(r.shelf.graph), r.o.Batch)
	if leased.err != api.OK {
		return api.Stats{}, leased.err
	}
	defer func() {
		if err != api.OK {
			r.own.sweep(r.v, r.named)
		}
	}()
	if err := begin(); err != api.OK {
		return api.Stats{}, err
	}
	if err := r.rounds(); err != api.OK {
		return api.Stats{}, err
	}
	return r.calls.stats, api.OK
}

func deskOf(k *kit, vertices, batch int) desk {
	return desk{
		states:  lease[api.State](k, vertices, "states"),
		edges:   lease[api.Edge](k, batch, "edges"),
		sent:    lease[api.Update](k, batch, "sent"),
		a:       lease[api.Update](k, batch, "updates"),
		b:       lease[api.Update](k, batch, "shuffle"),
		reading: lease[uint8](k, chunkBytes, "reading"),
		writing: lease[uint8](k, api.ChunkHead+chunkBytes, "writing"),
	}
}

// start makes the states of generation 0.
func (r *runner) start() api.Errno {
	files, err := r.generation(0, r.degrees, r.calls.start)
	if err := r.calls.settle(err); err != api.OK {
		return err
	}
	r.files = files
	r.calls.folded()
	if r.o.Every > 0 {
		return r.publish(false)
	}
	return api.OK
}

// goOn looks whether the manifest that is gone on from names a file for each part.
func (r *runner) goOn() api.Errno {
	if len(r.files) != r.shelf.graph.Parts {
		return api.ErrField
	}
	return api.OK
}

// rounds makes rounds till the run is done.
func (r *runner) rounds() api.Errno {
	for {
		done, err := r.round()
		if err != api.OK {
			return err
		}
		round := r.calls.stats.Rounds
		if done || r.o.Every > 0 && round%r.o.Every == 0 {
			if err := r.publish(done); err != api.OK {
				return err
			}
		}
		switch {
		case done:
			return api.OK
		case round >= r.o.Cap:
			return api.ErrCap
		}
	}
}

// publish makes the run stand where it is, whatever comes. From then on that it is tried till it is done, either manifest may stand.
func (r *runner) publish(done bool) api.Errno {
	c := r.calls
	m := api.RunMark{Run: r.o.Run, Graph: r.shelf.graph.Name, GraphSum: r.shelf.graph.Sum, Code: r.code, Words: c.words, Gen: c.stats.Rounds, Round: c.stats.Rounds, Done: done, Ctl: c.ctl, Agg: c.agg, Stats: c.stats, Files: r.files}
	text, err := roster.FromRun(m)
	if err == api.OK {
		err = r.v.SyncDir()
	}
	if err != api.OK {
		return err
	}
	next := namesOf(r.files)
	maps.Copy(r.named, next)
	if err := reel.Publish(r.v, r.own.manifest(), []byte(text)); err != api.OK {
		return err
	}
	r.named = next
	r.own.sweep(r.v, r.named)
	return api.OK
}
