package stripe

import (
	"slices"

	"sluice/api"
	"sluice/grain"
)

// find begins a call that names a file.
func (s *Stripe) find(name string) (*file, api.Errno) {
	if !s.begin() {
		return nil, api.ErrNil
	}
	if !isName(name) {
		return nil, api.ErrVolName
	}
	f := s.files[name]
	if f == nil {
		return nil, api.ErrNoFile
	}
	return f, api.OK
}

// Append writes behind a file's bytes (P5.3, P5.6). It is laid down at once: full rows, and what is left as a shorter one.
func (s *Stripe) Append(name string, data []byte) api.Errno {
	f, err := s.find(name)
	if err != api.OK {
		return err
	}
	if f.half {
		return api.ErrHalf
	}
	for len(data) > 0 {
		length := min(len(data), s.full())
		n := length * max(1, min(len(data), block*(s.members-1))/length)
		if err := s.lay(f, length, data[:n]); err != api.OK {
			f.half = true
			return err
		}
		data = data[n:]
	}
	return api.OK
}

// lay lays rows of one length over all members. Nothing is put behind a member's file that has not all that it should have: it ends where that was lost, and can be told from one with turned bits.
func (s *Stripe) lay(f *file, length int, data []byte) api.Errno {
	pieces := s.pieces(f, length, data)
	count := uint32(len(data) / length)
	first := !f.laid
	f.laid = true
	var tried [api.MaxMembers]bool
	err := s.each(func(m int) api.Errno {
		v := s.volumes[m]
		if first {
			if err := v.Create(f.name()); err != api.OK {
				return err
			}
		}
		if err := holds(v, f.name(), f.bytes); err != api.OK {
			return err
		}
		tried[m] = true
		return v.Append(f.name(), pieces[m])
	})
	if err != api.OK {
		count = s.landed(f, s.piece(length), count, tried)
	}
	f.extend(s.layout, length, s.log.gen, count)
	return err
}

// pieces cuts rows of one length into what each member is to hold of them.
func (s *Stripe) pieces(f *file, length int, data []byte) [api.MaxMembers][]byte {
	var all [api.MaxMembers][]byte
	for row := f.rows; len(data) > 0; row++ {
		told := stamp{length, s.log.gen, grain.CRC(data[:length])}
		for m, cell := range s.cells(row, data[:length]) {
			if cell != nil {
				all[m] = s.spot(f, row, m).lay(all[m], told, cell)
			}
		}
		data = data[length:]
	}
	return all
}

// landed tells how many of the rows that were refused may be told some day: these belong to the contents, so that no later Open tells more than they are. A member that failed for want of room or power has taken nothing; of any other one its size tells.
func (s *Stripe) landed(f *file, piece int64, count uint32, tried [api.MaxMembers]bool) uint32 {
	var rows []uint32
	for m := range s.members {
		taken := uint32(0)
		switch err := s.failed[m]; {
		case !tried[m], err == api.ErrQuota, err == api.ErrOff:
		case err == api.OK:
			taken = count
		default:
			taken = count
			if size, err := s.volumes[m].Size(f.name()); err == api.OK {
				taken = uint32(min(int64(count), max(0, size-f.bytes)/piece))
			}
		}
		rows = append(rows, taken)
	}
	slices.Sort(rows)
	return rows[1] // all but one have so many
}

// Sync makes a file's bytes durable (P5.3, P5.6). How many they are goes into the log, so that an Open that does not find as many tells it.
func (s *Stripe) Sync(name string) api.Errno {
	f, err := s.find(name)
	if err != api.OK {
		return err
	}
	if f.half {
		return api.ErrHalf
	}
	var told []entry
	if err = s.settle(f); err == api.OK {
		if f.synced < f.held {
			told = append(told, entry{recordSynced, number(number(nil, 8, f.id), 4, uint64(f.held))})
		}
		err = s.tell(told...)
	}
	if err != api.OK {
		f.half = true
		return err
	}
	f.synced = f.held
	return api.OK
}

// settle makes durable what members hold of a file. The size is asked behind that: had something been lost ahead of it, it would show.
func (s *Stripe) settle(f *file) api.Errno {
	if f.held == f.rows {
		return api.OK
	}
	err := s.each(func(m int) api.Errno {
		v := s.volumes[m]
		if err := v.Sync(f.name()); err != api.OK {
			return err
		}
		if !f.named {
			if err := v.SyncDir(); err != api.OK {
				return err
			}
		}
		return holds(v, f.name(), f.bytes)
	})
	if err == api.OK {
		f.named, f.held = true, f.rows
	}
	return err
}
