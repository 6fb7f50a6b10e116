package stripe

import (
	"sluice/api"
)

// Replace puts an empty volume in the place of a member, and fills it (P5.8). Nothing but v and what members lack is written till v holds all: if v fails, nobody has heard of it.
func (s *Stripe) Replace(member int, v api.Volume) api.Errno {
	if !s.begin() {
		return api.ErrNil
	}
	if member < 0 || member >= s.members {
		return api.ErrArg
	}
	if v == nil {
		return api.ErrNil
	}
	if err := blank(v); err != api.OK {
		return err
	}
	if s.another(member) {
		return api.ErrTwo
	}
	for _, name := range s.sorted() {
		if err := s.carry(s.files[name], member, v); err != api.OK {
			return err
		}
	}
	if err := s.seated(v); err != api.OK {
		return err
	}
	if err := s.settleAll(); err != api.OK {
		return err
	}
	if s.another(member) {
		return s.verdict()
	}
	return s.join(member, v)
}

// another tells whether another member is out.
func (s *Stripe) another(member int) bool { return s.out >= 0 && s.out != member }

// carry writes a file's pieces to the volume that is to take a member's place, and mends what other members have wrong: behind a Replace each of them may be the bad one.
func (s *Stripe) carry(f *file, member int, v api.Volume) api.Errno {
	if f.rows == 0 {
		return api.OK
	}
	wrong, lost := s.inspect(f)
	if lost {
		return s.verdict()
	}
	err := s.others(member, func(v api.Volume, m int) api.Errno {
		if !wrong[m] {
			return api.OK
		}
		err, missing := s.rewrite(f, m)
		if err != api.OK || missing != nil {
			lost = lost || missing != nil
			return err
		}
		if err := v.SyncDir(); err != api.OK {
			return err
		}
		return holds(v, f.name(), f.bytes)
	})
	if err == api.OK && lost {
		err = s.verdict()
	}
	if err != api.OK {
		return err
	}
	return s.bring(f, member, v)
}

// bring writes a file's pieces to the volume that is to take a member's place.
func (s *Stripe) bring(f *file, member int, v api.Volume) api.Errno {
	if err := v.Create(f.name()); err != api.OK {
		return err
	}
	switch err, missing := s.pour(f, member, v, f.name()); {
	case missing != nil:
		return s.verdict()
	case err != api.OK:
		return err
	}
	return v.Sync(f.name())
}

// seated makes durable which files the new volume has, and asks whether they are all there.
func (s *Stripe) seated(v api.Volume) api.Errno {
	if err := v.SyncDir(); err != api.OK {
		return err
	}
	for _, name := range s.sorted() {
		if f := s.files[name]; f.rows > 0 {
			if err := holds(v, f.name(), f.bytes); err != api.OK {
				return err
			}
		}
	}
	return api.OK
}

// settleAll makes durable what members hold of all files, and settles the log.
func (s *Stripe) settleAll() api.Errno {
	half := s.half
	for _, f := range s.files {
		half = half || f.half
	}
	if half {
		return api.ErrHalf
	}
	for _, name := range s.sorted() {
		if err := s.settle(s.files[name]); err != api.OK {
			return err
		}
	}
	return s.enter() // ahead of one log that may not hold there is to be one that does
}

// join begins a log in which the new volume has its place, on that one under a name that is no log's, and on all others. Till all of these have it, the one before holds. The name is the last thing that is written: a volume without it was never a member.
func (s *Stripe) join(member int, v api.Volume) api.Errno {
	c := s.newChart()
	c.joining, c.out = member, -1
	c.tenants[member]++
	b := s.newBook(s.log.gen+1, c)
	if err := b.begin(v, member, freshName(uint64(b.gen))); err != api.OK {
		return err
	}
	err := s.others(member, b.place)
	if err == api.OK {
		err = b.seat(v)
	}
	if err != api.OK {
		// Some members may have this log: one that is newer overrules it.
		s.log.old = append(s.log.old, logName(b.gen))
		s.renew(b.gen + 1)
		return err
	}
	s.volumes[member], s.out = v, -1
	s.takeUp(b, append(s.log.old, logName(s.log.gen))...)
	return api.OK
}

// seat gives the new volume's log its name, durable. Nothing is asked of the volume behind that: it is a member then, whatever it would answer.
func (b book) seat(v api.Volume) api.Errno {
	if err := v.Rename(freshName(uint64(b.gen)), logName(b.gen)); err != api.OK {
		return err
	}
	return v.SyncDir()
}

// others does one thing to every member but the one that is replaced. No other may be out behind it.
func (s *Stripe) others(member int, do func(v api.Volume, m int) api.Errno) api.Errno {
	err := s.each(func(m int) api.Errno {
		if m == member {
			return api.OK
		}
		return do(s.volumes[m], m)
	})
	if err == api.OK && s.another(member) {
		err = s.verdict()
	}
	return err
}
