package wheel

import (
	"sluice/api"
	"sluice/grain"
	"sluice/reel"
	"sluice/sieve"
)

// round makes one round, and tells whether it was the last.
func (r *runner) round() (bool, api.Errno) {
	spill, err := r.newSpill()
	if err != api.OK {
		return false, err
	}
	if err := r.scatter(spill); err != api.OK {
		return false, err
	}
	_, sent, err := spill.Close()
	if err := r.calls.settle(err); err != api.OK {
		return false, err
	}
	r.heard = grain.CRC()
	files, err := r.generation(r.calls.stats.Rounds+1, r.gather, r.calls.apply)
	if err == api.OK && r.heard != sent {
		err = api.ErrTotal
	}
	if err := r.calls.settle(err); err != api.OK {
		return false, err
	}
	spill.Drop()
	r.replace(files)
	return r.calls.turn()
}

// span tells the first vertex of a part, and the place of its states.
func (r *runner) span(part int) (uint32, []api.State) {
	lo, hi := r.shelf.cut.Span(part)
	return lo, r.states[:hi-lo]
}

// generation makes the states of a generation, part by part: what each vertex is to know is brought there, then the program reckons it, then it is written. A part's states are folded as soon as they are known; that this phase is behind the other shows only in which error goes ahead.
func (r *runner) generation(gen int, bring func(part int, first uint32, states []api.State) api.Errno, reckon func(first uint32, states []api.State)) ([]api.FileMark, api.Errno) {
	var files []api.FileMark
	for part := range r.shelf.graph.Parts {
		first, states := r.span(part)
		if err := bring(part, first, states); err != api.OK {
			return nil, err
		}
		reckon(first, states)
		r.calls.fold(first, states)
		mark, err := r.tape.write(gen, part, states, r.writing)
		if err != api.OK {
			return nil, err
		}
		files = append(files, mark)
	}
	return files, api.OK
}

// replace has other files be those of the states. The old ones go, but for those that the manifest names.
func (r *runner) replace(files []api.FileMark) {
	for _, old := range r.files {
		if _, kept := r.named[old.Name]; !kept {
			r.v.Remove(old.Name)
		}
	}
	r.files = files
}

// ways tells in which directions edges are gone along: forwards, and perhaps backwards.
func ways(both bool) []bool {
	if both {
		return []bool{false, true}
	}
	return []bool{false}
}

// degrees counts the edges of a part's vertices, into the first two words of their states.
func (r *runner) degrees(part int, first uint32, states []api.State) api.Errno {
	clear(states)
	for word, back := range ways(r.shelf.graph.Both) {
		err := r.batches(part, back, func(edges []api.Edge) api.Errno {
			for _, e := range edges {
				v := e.Src
				if back {
					v = e.Dst
				}
				states[v-first][word]++
			}
			return api.OK
		})
		if err != api.OK {
			return err
		}
	}
	return api.OK
}

// batches hands the edges of a part's file on, a buffer at a time.
func (r *runner) batches(part int, back bool, take func(edges []api.Edge) api.Errno) api.Errno {
	held := 0
	for e, err := range r.shelf.edges(part, back, r.reading) {
		if err != api.OK {
			return err
		}
		r.edges[held] = e
		held++
		if held < len(r.edges) {
			continue
		}
		if err := take(r.edges); err != api.OK {
			return err
		}
		held = 0
	}
	return take(r.edges[:held])
}

// load reads the states of a part.
func (r *runner) load(part int) (uint32, []api.State, api.Errno) {
	first, states := r.span(part)
	err := r.tape.read(r.calls.stats.Rounds, part, r.files[part], states, r.reading)
	return first, states, err
}

// updateTitle tells the title of a part's update file in the round that is made now.
func (r *runner) updateTitle(part int) api.Title {
	round := r.calls.stats.Rounds + 1
	return api.Title{Family: api.FamUpdates, Width: reel.UpdateForm().Width(), Tag: tagOf(r.o.Run, round*api.MaxParts+part)}
}

// newSpill begins the update files of a round.
func (r *runner) newSpill() (*sieve.Spill[api.Update], api.Errno) {
	var names []string
	var titles []api.Title
	for part := range r.shelf.graph.Parts {
		names = append(names, updateFile(r.o.Run, part))
		titles = append(titles, r.updateTitle(part))
	}
	return sieve.NewSpill(r.v, names, titles, reel.UpdateForm(), r.shelf.cut.ByTo, r.o.Fan, r.a, r.b, r.writing)
}

// scatter goes along all edges, a part at a time.
func (r *runner) scatter(spill *sieve.Spill[api.Update]) api.Errno {
	for part := range r.shelf.graph.Parts {
		first, states, err := r.load(part)
		if err != api.OK {
			return err
		}
		for _, back := range ways(r.calls.prog.Both()) {
			err := r.batches(part, back, func(edges []api.Edge) api.Errno {
				return r.calls.scatter(first, states, edges, back, r.sent, spill.Put)
			})
			if err != api.OK {
				return err
			}
		}
	}
	return api.OK
}

// gather brings a part's states and all updates that have come to them. How many they are, and their sum, goes into heard, as a spill sums its files.
func (r *runner) gather(part int, first uint32, states []api.State) api.Errno {
	if _, _, err := r.load(part); err != api.OK {
		return err
	}
	updates, err := reel.Open(r.v, updateFile(r.o.Run, part), r.updateTitle(part), reel.UpdateForm(), r.reading)
	if err != api.OK {
		return err
	}
	for _, u := range updates.All() {
		if r.shelf.cut.ByTo(u) != part {
			return api.ErrVertex
		}
		states[u.To-first] = r.calls.gather(states[u.To-first], u)
	}
	var row [12]byte
	grain.PutInt(row[:], 0, 8, updates.Count())
	grain.Put(row[:], 8, 4, uint64(updates.Sum()))
	r.heard = grain.More(r.heard, row[:])
	return updates.Code()
}
