package wheel

import (
	"iter"

	"sluice/api"
	"sluice/grain"
	"sluice/purse"
	"sluice/reel"
	"sluice/sieve"
)

// tagOf tells the tag of a file's title: whose file it is, and which one.
func tagOf(name string, number int) uint64 {
	return uint64(grain.CRC([]byte(name)))<<32 + uint64(number)
}

// whole tells whether a file that was read to its end is the one that a manifest names.
func whole[T any](r *reel.Reader[T], mark api.FileMark) api.Errno {
	switch {
	case r.Code() != api.OK:
		return r.Code()
	case r.Count() != mark.Records || r.Sum() != mark.Sum:
		return api.ErrTotal
	}
	return api.OK
}

// shelf is a graph's edge files, as its manifest names them.
type shelf struct {
	v     api.Volume
	graph api.Graph
	cut   sieve.Ranges
	form  reel.Form[api.Edge]
	files map[string]api.FileMark
}

func shelfOf(v api.Volume, m api.GraphMark) (*shelf, api.Errno) {
	cut, err := sieve.Split(m.Graph.N, m.Graph.Parts)
	if err != api.OK {
		return nil, err
	}
	form, err := reel.EdgeForm(m.Graph.Kind)
	if err != api.OK {
		return nil, err
	}
	return &shelf{v, m.Graph, cut, form, namesOf(m.Files)}, api.OK
}

// open begins to read a part's edge file, or its back file.
func (s *shelf) open(part int, back bool, buf []byte) (*reel.Reader[api.Edge], api.FileMark, api.Errno) {
	mark, named := s.files[sieve.EdgeFile(s.graph.Name, part, back)]
	if !named {
		return nil, mark, api.ErrField
	}
	title := api.Title{Family: api.FamEdges, Width: s.form.Width(), Tag: tagOf(s.graph.Name, part)}
	if back {
		title.Family = api.FamBack
	}
	r, err := reel.Open(s.v, mark.Name, title, s.form, buf)
	return r, mark, err
}

// holds tells whether an edge may stand in a part's file: whoever takes it counts on that.
func (s *shelf) holds(part int, back bool, e api.Edge) bool {
	near, far := e.Src, e.Dst
	if back {
		near, far = far, near
	}
	lo, hi := s.cut.Span(part)
	return near >= lo && near < hi && far < s.graph.N
}

// edges tells the edges of a part's file; an error comes as the last. Behind the last edge it looks whether they are those that the manifest names.
func (s *shelf) edges(part int, back bool, buf []byte) iter.Seq2[api.Edge, api.Errno] {
	return func(yield func(api.Edge, api.Errno) bool) {
		r, mark, err := s.open(part, back, buf)
		for _, e := range r.All() {
			if !s.holds(part, back, e) {
				yield(api.Edge{}, api.ErrVertex)
				return
			}
			if !yield(e, api.OK) {
				return
			}
		}
		if err == api.OK {
			err = whole(r, mark)
		}
		if err != api.OK {
			yield(api.Edge{}, err)
		}
	}
}

// Stream is a graph's edges, as they lie on the volume.
type Stream struct {
	shelf  *shelf
	leased *kit
	buf    []byte
	user   int // the ranging that has used the buffer last
	closed bool
}

// Edges begins to read a graph's edges (P12.18).
func Edges(v api.Volume, p *purse.Purse, name string, batch int) (*Stream, api.Errno) {
	switch {
	case v == nil || p == nil:
		return nil, api.ErrNil
	case !isName(name) || !isBatch(batch):
		return nil, api.ErrArg
	}
	m, err := graphMark(v, name)
	if err != api.OK {
		return nil, err
	}
	files, err := shelfOf(v, m)
	if err != api.OK {
		return nil, err
	}
	leased := &kit{purse: p}
	buf := lease[uint8](leased, chunkBytes, "edges")
	if leased.err != api.OK {
		return nil, leased.err
	}
	return &Stream{shelf: files, leased: leased, buf: buf}, api.OK
}

// made tells whether there is a Stream: one that Edges has not made has no files.
func (s *Stream) made() bool { return s != nil && s.shelf != nil }

// All tells all edges, from the beginning each time; an error comes as the last (P12.18).
func (s *Stream) All() iter.Seq2[api.Edge, api.Errno] {
	return func(yield func(api.Edge, api.Errno) bool) {
		if !s.made() {
			return
		}
		for part := range s.shelf.graph.Parts {
			if !s.part(part, yield) {
				return
			}
		}
	}
}

// part tells the edges of a part; false, if nothing more may be told. Rangings may be nested and share one buffer: one whose buffer was used by another meanwhile begins the file anew, and passes over what it has told.
func (s *Stream) part(part int, yield func(api.Edge, api.Errno) bool) bool {
	told := 0
	for again := true; again; {
		if s.closed {
			return false
		}
		again = false
		s.user++
		me, at := s.user, 0
		for e, err := range s.shelf.edges(part, false, s.buf) {
			at++
			if err == api.OK && at <= told {
				continue
			}
			if !yield(e, err) || err != api.OK || s.closed {
				return false
			}
			told++
			if s.user != me {
				again = true
				break
			}
		}
	}
	return true
}

// Close gives back what it holds (P12.18).
func (s *Stream) Close() api.Errno {
	switch {
	case !s.made():
		return api.ErrNil
	case s.closed:
		return api.ErrState
	}
	s.closed = true
	s.leased.giveBack()
	return api.OK
}
