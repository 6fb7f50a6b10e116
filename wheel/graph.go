package wheel

import (
	"iter"

	"sluice/api"
	"sluice/grain"
	"sluice/purse"
	"sluice/reel"
	"sluice/roster"
	"sluice/sieve"
)

// Plant lays a graph down: g's Name, N, Kind, Parts, Both; its edges as they come (P12.1).
func Plant(v api.Volume, p *purse.Purse, g api.Graph, batch, fan int, edges iter.Seq2[api.Edge, api.Errno]) (api.Graph, api.Errno) {
	switch {
	case v == nil || p == nil || edges == nil:
		return api.Graph{}, api.ErrNil
	case !isGraph(g) || !isBatch(batch) || !isFan(fan):
		return api.Graph{}, api.ErrArg
	}
	own := ofGraph(g.Name)
	if err := own.absent(v); err != api.OK {
		return api.Graph{}, err
	}
	if p.Left() < batch {
		return api.Graph{}, api.ErrSpent
	}
	if err := own.sweep(v, nil); err != api.OK {
		return api.Graph{}, err
	}
	leased := &kit{purse: p}
	defer leased.giveBack()
	room := batch
	if g.Both {
		room = 2 * batch // each edge is laid down twice, through a half of its own
	}
	bed := &bed{v: v, own: own, graph: g, fan: fan, a: lease[api.Edge](leased, room, "edges"), b: lease[api.Edge](leased, room, "shuffle"), bytes: lease[uint8](leased, api.ChunkHead+chunkBytes, "chunk")}
	if leased.err != api.OK {
		return api.Graph{}, leased.err
	}
	return bed.lay(atMost(api.MaxEdges, edges))
}

// bed is where a graph is laid down.
type bed struct {
	v     api.Volume
	own   kin
	graph api.Graph
	fan   int
	a, b  []api.Edge
	bytes []byte
}

// lay makes the files, and then the manifest, behind which there is a graph. Behind a publishing that failed nothing is removed: the manifest may be there.
func (b *bed) lay(edges iter.Seq2[api.Edge, api.Errno]) (api.Graph, api.Errno) {
	cut, err := sieve.Split(b.graph.N, b.graph.Parts)
	if err != api.OK {
		return api.Graph{}, err
	}
	haul, err := sieve.Ingest(b.v, b.graph.Name, cut, b.graph.Kind, b.graph.Both, edges, b.fan, b.a, b.b, b.bytes)
	if err != api.OK {
		return api.Graph{}, err
	}
	g := b.graph
	g.Edges, g.Sum = haul.Edges, identity(g, haul.Sum)
	files := edgeMarks(g.Name, haul)
	text, err := roster.FromGraph(api.GraphMark{Graph: g, Files: files})
	if err == api.OK {
		err = b.v.SyncDir()
	}
	if err != api.OK {
		for _, f := range files {
			b.v.Remove(f.Name)
		}
		return api.Graph{}, err
	}
	if err := reel.Publish(b.v, b.own.manifest(), []byte(text)); err != api.OK {
		return api.Graph{}, err
	}
	return g, api.OK
}

// identity tells the sum by which a graph is known.
func identity(g api.Graph, files uint32) uint32 {
	var row [12]byte
	grain.Put(row[:], 0, 4, uint64(g.N))
	grain.Put(row[:], 4, 1, uint64(g.Kind))
	grain.Put(row[:], 5, 2, uint64(g.Parts))
	if g.Both {
		row[7] = 1
	}
	grain.Put(row[:], 8, 4, uint64(files))
	return grain.CRC(row[:])
}

// edgeMarks tells the files of an ingest: the edge files, and then the back files.
func edgeMarks(name string, haul api.Haul) []api.FileMark {
	var files []api.FileMark
	for p, n := range haul.Parts {
		files = append(files, api.FileMark{Name: sieve.EdgeFile(name, p, false), Records: n, Sum: haul.Sums[p]})
	}
	for p, n := range haul.Back {
		files = append(files, api.FileMark{Name: sieve.EdgeFile(name, p, true), Records: n, Sum: haul.BackSums[p]})
	}
	return files
}

// atMost tells edges on; behind one too many, if that was taken, it tells ErrLong: what is wrong with that edge itself goes ahead.
func atMost(most int64, edges iter.Seq2[api.Edge, api.Errno]) iter.Seq2[api.Edge, api.Errno] {
	return func(yield func(api.Edge, api.Errno) bool) {
		told := int64(0)
		for e, err := range edges {
			if !yield(e, err) {
				return
			}
			told++
			if told > most {
				yield(api.Edge{}, api.ErrLong)
				return
			}
		}
	}
}

// Feed tells the edges of a list, one by one, without an error (P12.1).
func Feed(edges []api.Edge) iter.Seq2[api.Edge, api.Errno] {
	return func(yield func(api.Edge, api.Errno) bool) {
		for _, e := range edges {
			if !yield(e, api.OK) {
				return
			}
		}
	}
}

// graphMark reads a graph's manifest.
func graphMark(v api.Volume, name string) (api.GraphMark, api.Errno) {
	text, err := ofGraph(name).read(v)
	if err != api.OK {
		return api.GraphMark{}, err
	}
	m, err := roster.ToGraph(text)
	switch {
	case err != api.OK:
		return api.GraphMark{}, err
	case m.Graph.Name != name:
		return api.GraphMark{}, api.ErrOther
	}
	return m, api.OK
}

// Find tells a graph's manifest (P12.2).
func Find(v api.Volume, name string) (api.Graph, api.Errno) {
	m, err := graphMark(v, name)
	return m.Graph, err
}

// Uproot removes a graph (P12.3).
func Uproot(v api.Volume, name string) api.Errno {
	_, err := Find(v, name)
	return ofGraph(name).discard(v, err)
}
