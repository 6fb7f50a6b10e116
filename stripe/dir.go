package stripe

import (
	"maps"
	"slices"

	"sluice/api"
)

// How much may wait for the directory to become durable, ahead of it being made so unasked: members' files that are to go (with the names of all files and the logs they stay below what a volume can name), and bytes that tell the changes.
const (
	maxDoomed  = 40
	maxChanges = 1 << 16
)

// Changes of the directory, as a log's record tells them.
const (
	changeCreate = 1 + iota
	changeRename
	changeRemove
)

// Create makes an empty file (P5.3). Members hear of it with its first bytes.
func (s *Stripe) Create(name string) api.Errno {
	switch _, err := s.find(name); {
	case err == api.OK:
		return api.ErrTaken
	case err != api.ErrNoFile:
		return err
	case len(s.files) >= api.MaxStripeFiles:
		return api.ErrQuota
	}
	return s.change(func() {
		s.serial++
		f := &file{id: uint64(s.log.gen)<<32 | uint64(s.serial)}
		s.files[name] = f
		s.log.changes = number(text(append(s.log.changes, changeCreate), name), 8, f.id)
	})
}

// Rename gives a file another name (P5.3).
func (s *Stripe) Rename(from, to string) api.Errno {
	f, err := s.find(from)
	if err == api.ErrNil || err == api.ErrVolName {
		return err
	}
	if !isName(to) {
		return api.ErrVolName
	}
	if err != api.OK {
		return err
	}
	return s.change(func() {
		if from == to {
			return
		}
		s.doom(s.files[to])
		delete(s.files, from)
		s.files[to] = f
		s.log.changes = text(text(append(s.log.changes, changeRename), from), to)
	})
}

// Remove takes a file out of the directory (P5.3).
func (s *Stripe) Remove(name string) api.Errno {
	f, err := s.find(name)
	if err != api.OK {
		return err
	}
	return s.change(func() {
		s.doom(f)
		delete(s.files, name)
		s.log.changes = text(append(s.log.changes, changeRemove), name)
	})
}

// doom lets members keep a file that has no name any more till that is durable: till then the power's going may bring the name back.
func (s *Stripe) doom(f *file) {
	if f != nil && f.laid {
		s.doomed = append(s.doomed, f.name())
	}
}

// change changes the directory, if it still takes changes. It may be made durable first: that is refused ahead of the change, not behind it.
func (s *Stripe) change(do func()) api.Errno {
	if s.half {
		return api.ErrHalf
	}
	if len(s.doomed) >= maxDoomed || len(s.log.changes) >= maxChanges {
		if err := s.commit(); err != api.OK {
			s.half = true
			return err
		}
	}
	do()
	return api.OK
}

// SyncDir makes the directory durable (P5.3).
func (s *Stripe) SyncDir() api.Errno {
	if !s.begin() {
		return api.ErrNil
	}
	if s.half {
		return api.ErrHalf
	}
	err := s.commit()
	s.half = err != api.OK
	return err
}

// commit makes the directory durable, and only behind that takes away what it names no more.
func (s *Stripe) commit() api.Errno {
	var told []entry
	if len(s.log.changes) > 0 {
		told = append(told, entry{recordChanges, s.log.changes})
	}
	if err := s.tell(told...); err != api.OK {
		return err
	}
	s.log.changes = nil
	return s.purge()
}

// purge takes what is doomed off the members, for good.
func (s *Stripe) purge() api.Errno {
	if len(s.doomed) == 0 {
		return api.OK
	}
	err := s.each(func(m int) api.Errno { return discard(s.volumes[m], s.doomed) })
	if err == api.OK {
		s.doomed = nil
	}
	return err
}

// discard removes files of a member, durable. Whether they are gone is asked behind that: had the power gone in between, they would be there again.
func discard(v api.Volume, names []string) api.Errno {
	for _, name := range names {
		if err := v.Remove(name); err != api.OK && err != api.ErrNoFile {
			return err
		}
	}
	if err := v.SyncDir(); err != api.OK {
		return err
	}
	for _, name := range names {
		switch _, err := v.Size(name); err {
		case api.ErrNoFile:
		case api.OK:
			return api.ErrIO
		default:
			return err
		}
	}
	return api.OK
}

// Size tells a file's bytes (P5.6: it is always answered).
func (s *Stripe) Size(name string) (int64, api.Errno) {
	f, err := s.find(name)
	if err != api.OK {
		return 0, err
	}
	return f.size, api.OK
}

// List tells all names, rising (P5.6: it is always answered).
func (s *Stripe) List() ([]string, api.Errno) {
	if !s.begin() {
		return nil, api.ErrNil
	}
	return s.sorted(), api.OK
}

// sorted gives all names in an order that does not hang on the map.
func (s *Stripe) sorted() []string { return slices.Sorted(maps.Keys(s.files)) }
