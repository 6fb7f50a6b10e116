package sieve_test

import (
	"encoding/binary"
	"hash/crc32"
	"slices"

	"sluice/api"
)

// world is what a volume is asked for by the chapter's words, and what it answers: so a second reading can be held against the first one, call by call.
type world struct {
	calls []string
	fail  map[int]api.Errno
	there map[string]bool
}

func worldOf(fail map[int]api.Errno, there ...string) *world {
	w := &world{fail: fail, there: map[string]bool{}}
	for _, name := range there {
		w.there[name] = true
	}
	return w
}

func (w *world) ask(op, name string, data []byte) api.Errno {
	w.calls = append(w.calls, line(op, name, data))
	if err := w.fail[len(w.calls)]; err != api.OK {
		return err
	}
	switch {
	case op == "Create" && w.there[name]:
		return api.ErrTaken
	case op != "Create" && !w.there[name]:
		return api.ErrNoFile
	}
	w.there[name] = op != "Remove"
	return api.OK
}

// file of a sketch.
type file struct {
	name   string
	number uint32
	count  int64
	all    []byte
}

// sketch is a spill by the words of P9.6 to P9.10: no shuffle, only a list of records that is gone through for each part.
type sketch[T any] struct {
	w             *world
	files         []*file
	bytesOf       func(T) []byte
	part          func(T) int
	width         int
	room, bytes   int // places of a, bytes of the Writers' buffer
	gathered      []T
	shut, dropped bool
}

// begin is NewSpill behind its refusals.
func (s *sketch[T]) begin(names []string, titles []api.Title) api.Errno {
	for p, name := range names {
		err := s.w.ask("Create", name, nil)
		if err == api.OK {
			s.files = append(s.files, &file{name: name, number: 1})
			err = s.w.ask("Append", name, titleChunk(titles[p]))
		}
		if err != api.OK {
			for _, f := range s.files {
				s.w.ask("Remove", f.name, nil)
			}
			return err
		}
	}
	return api.OK
}

func (s *sketch[T]) put(ts ...T) api.Errno {
	if s.shut {
		return api.ErrShut
	}
	for _, t := range ts {
		if p := s.part(t); p < 0 || p >= len(s.files) {
			s.shut = true
			return api.ErrPart
		}
		s.gathered = append(s.gathered, t)
		if len(s.gathered) == s.room {
			if err := s.flush(); err != api.OK {
				return err
			}
		}
	}
	return api.OK
}

func (s *sketch[T]) flush() api.Errno {
	if s.shut {
		return api.ErrShut
	}
	for p, f := range s.files {
		var body []byte
		for _, t := range s.gathered {
			if s.part(t) == p {
				body = append(body, s.bytesOf(t)...)
			}
		}
		f.count += int64(len(body) / s.width)
		chunkful := min(s.bytes-24, 1<<20) / s.width * s.width
		for some := range slices.Chunk(body, chunkful) {
			if err := s.w.ask("Append", f.name, chunk(2, f.number, uint32(len(some)/s.width), some)); err != api.OK {
				s.shut = true
				return err
			}
			f.number++
			f.all = append(f.all, some...)
		}
	}
	s.gathered = nil
	return api.OK
}

// close answers the Sums of the files too.
func (s *sketch[T]) close() (counts []int64, sums []uint32, sum uint32, e api.Errno) {
	if err := s.flush(); err != api.OK {
		return nil, nil, 0, err
	}
	var all []byte
	for _, f := range s.files {
		err := s.w.ask("Append", f.name, endChunk(f.number, f.count, f.all))
		if err == api.OK {
			err = s.w.ask("Sync", f.name, nil)
		}
		if err != api.OK {
			s.shut = true
			return nil, nil, 0, err
		}
		counts, sums = append(counts, f.count), append(sums, crc32.ChecksumIEEE(f.all))
		all = binary.LittleEndian.AppendUint64(all, uint64(f.count))
		all = binary.LittleEndian.AppendUint32(all, crc32.ChecksumIEEE(f.all))
	}
	s.shut = true
	return counts, sums, crc32.ChecksumIEEE(all), api.OK
}

func (s *sketch[T]) drop() api.Errno {
	if s.dropped {
		return api.ErrState
	}
	s.shut, s.dropped = true, true
	var first api.Errno
	for _, f := range s.files {
		if err := s.w.ask("Remove", f.name, nil); err != api.ErrNoFile && first == api.OK {
			first = err
		}
	}
	return first
}

// given is what an Ingest of the tests is handed.
type given struct {
	name  string
	n     uint32
	k     int
	kind  api.EdgeKind
	both  bool
	edges []api.Edge
	wrong map[int]api.Errno // which edge comes with which error
	fan   int
	room  int
	bytes int
}

// sketchIngest is P9.11 behind its refusals.
func sketchIngest(w *world, g given) (api.Haul, api.Errno) {
	var spills []*sketch[api.Edge]
	for i, mark := range []string{"-e-", "-r-"} {
		if i == 1 && !g.both {
			continue
		}
		s := &sketch[api.Edge]{w: w, width: 12, bytes: g.bytes, room: g.room}
		if g.kind == api.EPlain {
			s.width = 8
		}
		if g.both {
			s.room = g.room / 2
		}
		s.bytesOf = func(e api.Edge) []byte { return edgeBytes(g.kind, e) }
		s.part = func(e api.Edge) int { return partOf(g.n, g.k, []uint32{e.Src, e.Dst}[i]) }
		var names []string
		var titles []api.Title
		for p := range g.k {
			digits := "000" + string(rune('0'+p))
			names = append(names, g.name+mark+digits)
			titles = append(titles, api.Title{Family: i + 1, Width: s.width, Tag: tag(g.name, p)})
		}
		err := s.begin(names, titles)
		if err != api.OK {
			for _, old := range spills {
				old.drop()
			}
			return api.Haul{}, err
		}
		spills = append(spills, s)
	}
	haul, err := sketchEdges(spills, g)
	if err != api.OK {
		for _, s := range spills {
			s.drop()
		}
		return api.Haul{}, err
	}
	return haul, api.OK
}

func sketchEdges(spills []*sketch[api.Edge], g given) (api.Haul, api.Errno) {
	var h api.Haul
	for i, e := range g.edges {
		switch {
		case g.wrong[i] != api.OK:
			return h, g.wrong[i]
		case e.Src >= g.n || e.Dst >= g.n:
			return h, api.ErrVertex
		case g.kind == api.EPlain && e.W != 0, g.kind == api.EReal && e.W>>23&255 == 255:
			return h, api.ErrWeight
		}
		for _, s := range spills {
			if err := s.put(e); err != api.OK {
				return h, err
			}
		}
		h.Edges++
	}
	var err api.Errno
	if h.Parts, h.Sums, h.Sum, err = spills[0].close(); err != api.OK || !g.both {
		return h, err
	}
	var back uint32
	if h.Back, h.BackSums, back, err = spills[1].close(); err != api.OK {
		return h, err
	}
	both := binary.LittleEndian.AppendUint32(nil, h.Sum)
	h.Sum = crc32.ChecksumIEEE(binary.LittleEndian.AppendUint32(both, back))
	return h, api.OK
}
