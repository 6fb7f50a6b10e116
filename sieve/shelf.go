package sieve

import "sluice/api"

// shelf stands for a volume and counts the files that were begun: when a Writer is refused, its file may be there or not, and only what was begun may be removed.
type shelf struct {
	api.Volume
	begun int
}

// Create is the volume's.
func (s *shelf) Create(name string) api.Errno {
	err := s.Volume.Create(name)
	if err == api.OK {
		s.begun++
	}
	return err
}

// clear removes files, all of them, whatever is answered, and tells the first error but that there is none.
func (s *shelf) clear(names []string) api.Errno {
	first := api.OK
	for _, name := range names {
		err := s.Remove(name)
		if first == api.OK && err != api.ErrNoFile {
			first = err
		}
	}
	return first
}
