package sieve

import (
	"slices"

	"sluice/api"
	"sluice/grain"
	"sluice/reel"
)

// Spill gathers records in a buffer and lays them into the files of their parts.
type Spill[T any] struct {
	shelf   *shelf
	names   []string
	writers []*reel.Writer[T]
	part    func(T) int
	fan     int
	a, b    []T
	held    int // records in a
	shut    bool
	dropped bool
}

// NewSpill begins the files (P9.6).
func NewSpill[T any](v api.Volume, names []string, titles []api.Title, f reel.Form[T], part func(T) int, fan int, a, b []T, bytes []byte) (*Spill[T], api.Errno) {
	if v == nil {
		return nil, api.ErrNil
	}
	if len(titles) != len(names) {
		return nil, api.ErrCut
	}
	_, err := Stages(len(names), fan)
	switch {
	case err != api.OK:
		return nil, err
	case part == nil:
		return nil, api.ErrArg
	case len(a) == 0 || len(b) < len(a):
		return nil, api.ErrTight
	}
	s := &Spill[T]{shelf: &shelf{Volume: v}, names: slices.Clone(names), part: part, fan: fan, a: a, b: b}
	for p, name := range s.names {
		w, err := reel.Create(s.shelf, name, titles[p], f, bytes)
		if err != api.OK {
			s.shelf.clear(s.names[:s.shelf.begun])
			return nil, err
		}
		s.writers = append(s.writers, w)
	}
	return s, api.OK
}

// made tells whether there is a spill: one that NewSpill has not made has no shelf.
func (s *Spill[T]) made() bool { return s != nil && s.shelf != nil }

// ready is how every call that takes or writes records begins.
func (s *Spill[T]) ready() api.Errno {
	switch {
	case !s.made():
		return api.ErrNil
	case s.shut:
		return api.ErrShut
	}
	return api.OK
}

// stop shuts it: the buffers are the caller's again.
func (s *Spill[T]) stop(code api.Errno) api.Errno {
	s.shut, s.writers, s.a, s.b, s.held = true, nil, nil, nil, 0
	return code
}

// Put takes records (P9.7).
func (s *Spill[T]) Put(ts ...T) api.Errno {
	if err := s.ready(); err != api.OK {
		return err
	}
	for _, t := range ts {
		if p := s.part(t); p < 0 || p >= len(s.names) {
			return s.stop(api.ErrPart)
		}
		s.a[s.held] = t
		s.held++
		if s.held < len(s.a) {
			continue
		}
		if err := s.flush(); err != api.OK {
			return err
		}
	}
	return api.OK
}

// Flush lays what is gathered into the files (P9.8).
func (s *Spill[T]) Flush() api.Errno {
	if err := s.ready(); err != api.OK {
		return err
	}
	return s.flush()
}

func (s *Spill[T]) flush() api.Errno {
	in, starts, err := Shuffle(s.a[:s.held], s.b, len(s.names), s.fan, s.part)
	if err != api.OK {
		return s.stop(err)
	}
	for p, w := range s.writers {
		if err := lay(w, in[starts[p]:starts[p+1]]); err != api.OK {
			return s.stop(err)
		}
	}
	s.held = 0
	return api.OK
}

// lay hands records to a Writer and has it flushed, so that the bytes, which all Writers share, are the next one's.
func lay[T any](w *reel.Writer[T], ts []T) api.Errno {
	if err := w.Put(ts...); err != api.OK {
		return err
	}
	return w.Flush()
}

// Close ends all files: records of each part, and the sum of all (P9.9).
func (s *Spill[T]) Close() ([]int64, uint32, api.Errno) {
	counts, sums, err := s.finish()
	if err != api.OK {
		return nil, 0, err
	}
	return counts, sumOf(counts, sums), api.OK
}

// finish ends all files: records and sum of each.
func (s *Spill[T]) finish() ([]int64, []uint32, api.Errno) {
	if err := s.Flush(); err != api.OK {
		return nil, nil, err
	}
	counts, sums := make([]int64, len(s.names)), make([]uint32, len(s.names))
	for p, w := range s.writers {
		if err := w.Close(); err != api.OK {
			return nil, nil, s.stop(err)
		}
		counts[p], sums[p] = w.Count(), w.Sum()
	}
	return counts, sums, s.stop(api.OK)
}

// sumOf tells the sum of a spill's files, out of what each one's records and sum are.
func sumOf(counts []int64, sums []uint32) uint32 {
	var row [12]byte
	all := grain.CRC()
	for p, n := range counts {
		grain.PutInt(row[:], 0, 8, n)
		grain.Put(row[:], 8, 4, uint64(sums[p]))
		all = grain.More(all, row[:])
	}
	return all
}

// Drop removes all files (P9.10).
func (s *Spill[T]) Drop() api.Errno {
	switch {
	case !s.made():
		return api.ErrNil
	case s.dropped:
		return api.ErrState
	}
	s.stop(api.OK)
	s.dropped = true
	return s.shelf.clear(s.names)
}
