package wheel

import (
	"sluice/api"
	"sluice/crew"
	"sluice/tally"
)

// drain tells the words of a state that a monoid goes to, a bit each; false, if they are not all there.
func drain(m api.Monoid, at, words int) (uint, bool) {
	wide := 1
	switch {
	case m < api.MonNone || m > api.MonTally:
		return 0, false
	case m == api.MonNone:
		return 0, true
	case m == api.MonTally:
		wide = api.TallyWords
	}
	if at < 0 || at > words-wide {
		return 0, false
	}
	return (1<<wide - 1) << at, true
}

// isSink tells whether a program of so many words may have this sink (0.4).
func isSink(s api.Sink, words int) bool {
	a, rightA := drain(s.MonA, s.A, words)
	b, rightB := drain(s.MonB, s.B, words)
	return rightA && rightB && a&b == 0
}

// isProgram tells whether a program may be run.
func isProgram(prog api.Program) bool {
	return isWords(prog.Words()) && isSink(prog.Sink(), prog.Words())
}

// reckoner makes the calls of a program, by workers where their order is free, and keeps what all vertices know of the run. It knows of no files.
type reckoner struct {
	prog    api.Program
	words   int
	sink    api.Sink
	workers int
	ctl     api.Ctl
	agg     api.State // behind the Fold of all vertices
	folding api.State // behind the Fold of some
	changed uint64    // vertices, in this round
	stats   api.Stats
	wrong   api.Errno // the least error of Start, Scatter or Apply: they are never met in one phase, since the first of them ends the run
	misfold api.Errno // the least error of Fold
}

func reckonerOf(prog api.Program, workers int) *reckoner {
	return &reckoner{prog: prog, words: prog.Words(), sink: prog.Sink(), workers: workers}
}

// lesser tells which of two errors goes ahead; OK is none.
func lesser(a, b api.Errno) api.Errno {
	if a == api.OK || b != api.OK && b < a {
		return b
	}
	return a
}

// span is what one worker reckons of a list, and what has come of it.
type span struct {
	lo, hi int
	count  int       // of what was asked for: updates, vertices changed
	wrong  api.Errno // the least error
}

// share lets the workers reckon over n items, a span each, and tells the spans in their order. All calls are made, whatever they answer.
func (c *reckoner) share(n int, do func(s span) span) []span {
	var spans []span
	size := (n + c.workers - 1) / c.workers
	for lo := 0; lo < n; lo += size {
		spans = append(spans, span{lo: lo, hi: min(lo+size, n)})
	}
	done, _, err := crew.Map(c.workers, spans, func(_ int, s span) (span, api.Errno) { return do(s), api.OK })
	c.wrong = lesser(c.wrong, err)
	for _, s := range done {
		c.wrong = lesser(c.wrong, s.wrong)
	}
	return done
}

// kept tells a state without the words that are not kept.
func (c *reckoner) kept(s api.State) api.State {
	clear(s[c.words:])
	return s
}

// start gives vertices, from first on, their states, in the place of which their degrees stand: Out, and In.
func (c *reckoner) start(first uint32, states []api.State) {
	c.share(len(states), func(s span) span {
		for i := s.lo; i < s.hi; i++ {
			state, err := c.prog.Start(first+uint32(i), api.Degrees{Out: states[i][0], In: states[i][1]})
			states[i] = c.kept(state)
			s.wrong = lesser(s.wrong, err)
		}
		return s
	})
}

// scatter goes along edges from vertices whose states these are, from first on, and sends what comes of it. sent has a place for each edge.
func (c *reckoner) scatter(first uint32, states []api.State, edges []api.Edge, back bool, sent []api.Update, send func(...api.Update) api.Errno) api.Errno {
	spans := c.share(len(edges), func(s span) span {
		for _, e := range edges[s.lo:s.hi] {
			from, to := e.Src, e.Dst
			if back {
				from, to = to, from
			}
			a, b, sends, err := c.prog.Scatter(c.ctl, states[from-first], e, back)
			s.wrong = lesser(s.wrong, err)
			if sends && err == api.OK {
				sent[s.lo+s.count] = api.Update{To: to, A: a, B: b}
				s.count++
			}
		}
		return s
	})
	c.stats.Edges += uint64(len(edges))
	for _, s := range spans {
		c.stats.Updates += uint64(s.count)
		if err := send(sent[s.lo : s.lo+s.count]...); err != api.OK {
			return err
		}
	}
	return api.OK
}

// gather tells the state to which an update has come.
func (c *reckoner) gather(s api.State, u api.Update) api.State {
	s = tally.Mon(c.sink.MonA, s, c.sink.A, u.A)
	return tally.Mon(c.sink.MonB, s, c.sink.B, u.B)
}

// apply gives vertices, from first on, their next states.
func (c *reckoner) apply(first uint32, states []api.State) {
	spans := c.share(len(states), func(s span) span {
		for i := s.lo; i < s.hi; i++ {
			next, changed, err := c.prog.Apply(c.ctl, c.agg, first+uint32(i), states[i])
			states[i] = c.kept(next)
			s.wrong = lesser(s.wrong, err)
			if changed {
				s.count++
			}
		}
		return s
	})
	for _, s := range spans {
		c.changed += uint64(s.count)
	}
}

// fold takes vertices, from first on, into the aggregate. Behind an error there is no Fold: the states beside it are none.
func (c *reckoner) fold(first uint32, states []api.State) {
	if c.wrong != api.OK {
		return
	}
	for i, s := range states {
		agg, err := c.prog.Fold(c.ctl, c.folding, first+uint32(i), s)
		if err == api.OK {
			c.folding = agg
		}
		c.misfold = lesser(c.misfold, err)
	}
}

// settle ends a phase: with the error of its files, or else with the least one of the program; Fold, though it was called between, is the last.
func (c *reckoner) settle(files api.Errno) api.Errno {
	switch {
	case files != api.OK:
		return files
	case c.wrong != api.OK:
		return c.wrong
	}
	return c.misfold
}

// folded has the aggregate be what was folded: all vertices have been.
func (c *reckoner) folded() {
	c.agg, c.folding = c.folding, api.State{}
}

// turn ends a round, and tells whether it was the last.
func (c *reckoner) turn() (bool, api.Errno) {
	c.folded()
	c.stats.Rounds++
	c.stats.Changed += c.changed
	next, done, err := c.prog.Turn(c.ctl, c.agg, c.changed, c.stats.Rounds)
	c.ctl, c.changed = next, 0
	return done, err
}
