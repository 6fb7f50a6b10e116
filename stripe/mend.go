package stripe

import (
	"sluice/api"
	"sluice/grain"
)

// tape is what a member holds of a file that nothing is known of yet.
type tape struct {
	size   int64  // -1: it can't be told
	good   uint32 // so many rows are right
	from   int64
	window []byte // the bytes from there on
}

// find is what a scan has found of a file.
type find struct {
	f     *file
	tapes [api.MaxMembers]tape
}

// scan finds the rows of a file from the first on that all members but one hold. If there are fewer than were durable, more members are bad than may be, and the scan tells so.
func (s *Stripe) scan(f *file) (find, bool) {
	*f = file{id: f.id, synced: f.synced}
	one := find{f: f}
	for m := range s.members {
		one.tapes[m].size = s.extent(f, m)
	}
	for {
		told, right, ok := s.judge(&one)
		if !ok {
			break
		}
		for m := range s.members {
			if right[m] {
				one.tapes[m].good++
			}
		}
		f.extend(s.layout, told.length, told.gen, 1)
	}
	for m := range s.members {
		one.tapes[m].window = nil
	}
	f.laid, f.named = f.rows > 0, f.rows > 0
	return one, f.rows >= f.synced
}

// extent tells the size of a member's file.
func (s *Stripe) extent(f *file, m int) int64 {
	if m == s.out {
		return -1
	}
	size, err := s.volumes[m].Size(f.name())
	switch err {
	case api.OK:
		return size
	case api.ErrNoFile:
		return 0
	}
	s.failed[m] = err
	return -1
}

// judge looks at the pieces of the next row: what its stamp is, and who holds it.
func (s *Stripe) judge(one *find) (stamp, [api.MaxMembers]bool, bool) {
	var stamps [api.MaxMembers]stamp
	for m := range s.members {
		stamps[m] = s.seen(one, m)
	}
	for _, told := range stamps[:s.members] {
		var right [api.MaxMembers]bool
		for m := range s.members {
			right[m] = told.length > 0 && stamps[m] == told
		}
		if s.enough(right) {
			return told, right, true
		}
	}
	return stamp{}, [api.MaxMembers]bool{}, false
}

// seen gives the stamp of a member's piece of the next row, if nothing of the piece is wrong.
func (s *Stripe) seen(one *find, m int) stamp {
	place := s.spot(one.f, one.f.rows, m)
	told, ok := place.head(s.peek(one, m, pieceHead))
	if ok {
		told, _, ok = place.whole(s.peek(one, m, s.piece(told.length)))
	}
	if !ok {
		s.fails(m)
		return stamp{}
	}
	return told
}

// peek gives so many bytes of a member's file from where the next row begins; nil, if they are not there.
func (s *Stripe) peek(one *find, m int, n int64) []byte {
	t, at := &one.tapes[m], one.f.bytes
	if at+n > t.size {
		return nil
	}
	if at < t.from || at+n > t.from+int64(len(t.window)) {
		t.from, t.window = at, make([]byte, min(max(n, block), t.size-at))
		got, err := read(s.volumes[m], one.f.name(), at, t.window)
		if err != api.OK {
			s.failed[m] = err
		}
		t.window = t.window[:got]
		if int64(got) < n {
			return nil
		}
	}
	return t.window[at-t.from:][:n]
}

// gap is a row that can't be told, and the members that do not tell their pieces of it.
type gap struct {
	row    uint32
	silent [api.MaxMembers]bool
}

// mend lays down anew what members lack of the files, and makes all of it durable. A row that was found can't be gone unless a member tells now one thing and now another: if that is the only one that is bad, it is out, and all is to be found again without it.
func (s *Stripe) mend(finds []find) (again bool, err api.Errno) {
	before, lost := s.out, false
	var liars [api.MaxMembers]bool
	err = s.each(func(m int) api.Errno {
		for _, one := range finds {
			err, missing := s.mendFile(one, m)
			if missing != nil {
				lost = true
				s.accuse(one, missing, &liars)
				return api.OK
			}
			if err != api.OK {
				return err
			}
		}
		return s.seal(finds, m)
	})
	if err != api.OK || !lost {
		return false, err
	}
	for m, is := range liars {
		if is && s.out < 0 {
			s.putOut(m)
		}
		if is && s.out != m {
			return false, s.verdict()
		}
	}
	if before >= 0 || s.out < 0 {
		return false, s.verdict()
	}
	return true, api.OK
}

// accuse names the members that do not tell their pieces of a row, though their files are long enough for it: others have just never had it.
func (s *Stripe) accuse(one find, missing *gap, liars *[api.MaxMembers]bool) {
	end := one.f.place(s.layout, missing.row+1)
	for m := range s.members {
		if missing.silent[m] && m != s.out && one.tapes[m].size >= end {
			liars[m] = true
		}
	}
}

// mendFile mends a file on a member.
func (s *Stripe) mendFile(one find, m int) (api.Errno, *gap) {
	f, t := one.f, one.tapes[m]
	switch {
	case f.rows == 0:
		return api.OK, nil
	case t.good == f.rows && t.size == f.bytes:
		return s.volumes[m].Sync(f.name()), nil
	}
	return s.rewrite(f, m)
}

// rewrite puts a whole file in the place of one that a member has. Only one that is durable, and all there, is better than what it has now.
func (s *Stripe) rewrite(f *file, m int) (api.Errno, *gap) {
	v, fresh := s.volumes[m], freshName(f.id)
	if err := v.Remove(fresh); err != api.OK && err != api.ErrNoFile {
		return err, nil
	}
	if err := v.Create(fresh); err != api.OK {
		return err, nil
	}
	if err, missing := s.pour(f, m, v, fresh); err != api.OK || missing != nil {
		return err, missing
	}
	if err := v.Sync(fresh); err != api.OK {
		return err, nil
	}
	if err := v.SyncDir(); err != api.OK {
		return err, nil
	}
	if err := holds(v, fresh, f.bytes); err != api.OK {
		return err, nil
	}
	return v.Rename(fresh, f.name()), nil
}

// pour writes a member's pieces of a file to a volume, as far as they can be told.
func (s *Stripe) pour(f *file, m int, v api.Volume, name string) (api.Errno, *gap) {
	for p := range s.spans(f, 0, f.size) {
		var pieces []byte
		for row := p.first; row < p.first+p.count; row++ {
			data, ok := p.row(row)
			if !ok {
				return api.OK, p.gap(row)
			}
			mark := stamp{len(data), p.run.gen, grain.CRC(data)}
			pieces = s.spot(f, row, m).lay(pieces, mark, s.cells(row, data)[m])
		}
		if err := v.Append(name, pieces); err != api.OK {
			return err, nil
		}
	}
	return api.OK, nil
}

// gap tells who does not tell a row.
func (p *span) gap(row uint32) *gap {
	missing := &gap{row: row}
	for m := range p.s.members {
		_, _, ok := p.piece(m, row)
		missing.silent[m] = !ok
	}
	return missing
}

// seal makes the names of a member's files durable, and asks whether all of it is there: had the power gone on the way, it would not be.
func (s *Stripe) seal(finds []find, m int) api.Errno {
	if err := s.volumes[m].SyncDir(); err != api.OK {
		return err
	}
	for _, one := range finds {
		if one.f.rows == 0 {
			continue
		}
		if err := holds(s.volumes[m], one.f.name(), one.f.bytes); err != api.OK {
			return err
		}
	}
	return api.OK
}
