package stripe

import (
	"slices"
	"strings"

	"sluice/api"
)

// Open takes up the stripe that lies on volumes (P5.2, P5.7).
func Open(members ...api.Volume) (*Stripe, api.Errno) {
	s, err := over(members)
	if err != api.OK {
		return nil, err
	}
	var views []view
	for _, v := range members {
		views = append(views, look(v))
	}
	if err := s.admit(views); err != api.OK {
		return nil, err
	}
	agreed, err := s.agree(views)
	if err != api.OK {
		return nil, err
	}
	s.adopt(agreed, views)
	if err := s.sweep(agreed, views); err != api.OK {
		return nil, err
	}
	if err := s.restore(); err != api.OK {
		return nil, err
	}
	if err := s.renewAll(views); err != api.OK {
		return nil, err
	}
	return s, api.OK
}

// adopt takes the directory as it was agreed upon. A volume that a Replace has brought, and that the others do not know, is out. One whose place a Replace was to give away has it again.
func (s *Stripe) adopt(agreed accord, views []view) {
	s.log = ledger{gen: agreed.gen, tenants: agreed.chart.tenants, noted: true}
	for name, id := range agreed.chart.names {
		s.files[name] = &file{id: id, synced: agreed.chart.synced[id]}
	}
	for m, seen := range views {
		switch told := agreed.chart.tenants[m]; {
		case seen.tenant() > told:
			s.out = m
		case seen.whole():
			s.log.tenants[m] = seen.tenant()
		}
	}
}

// restore finds what the files hold, and lays down anew what members lack of it.
func (s *Stripe) restore() api.Errno {
	for {
		finds, ok := s.scanAll()
		if !ok {
			return s.verdict()
		}
		if again, err := s.mend(finds); err != api.OK || !again {
			return err
		}
	}
}

// scanAll scans all files.
func (s *Stripe) scanAll() ([]find, bool) {
	var finds []find
	for _, name := range s.sorted() {
		one, ok := s.scan(s.files[name])
		if !ok {
			return nil, false
		}
		finds = append(finds, one)
	}
	return finds, true
}

// sweep takes off what Opens and Replaces have left that were broken off: else there would be more of it with each.
func (s *Stripe) sweep(agreed accord, views []view) api.Errno {
	return s.each(func(m int) api.Errno {
		v := s.volumes[m]
		if agreed.holders[m] {
			if err := v.Sync(logName(agreed.gen)); err != api.OK {
				return err
			}
		}
		for _, name := range views[m].names {
			gen, isLog := genOf(name)
			if isLog && agreed.needs(gen, m, views) || !isLog && !strings.HasPrefix(name, freshPrefix) {
				continue
			}
			if err := v.Remove(name); err != api.OK && err != api.ErrNoFile {
				return err
			}
		}
		return api.OK
	})
}

// needs tells whether a log stays on a member till there is a newer one: the one that was agreed upon; if the member lacks that, its own newest, without which nothing of a stripe would lie there; and those before it that such a member has, for others may have to agree with that one some day. (Of two of them the older one alone may not be left.)
func (a accord) needs(gen uint32, m int, views []view) bool {
	switch {
	case gen == a.gen, !a.holders[m] && gen == views[m].newest():
		return true
	case gen > a.gen:
		return false
	}
	for o, other := range views {
		if _, has := other.log(gen); has && !a.holders[o] && !other.veiled(gen) {
			return true
		}
	}
	return false
}

// renewAll begins the log of this Open, and takes off the members whatever else of the stripe lies there.
func (s *Stripe) renewAll(views []view) api.Errno {
	for _, f := range s.files {
		f.held = f.rows
	}
	gens := generations(views)
	for _, gen := range gens {
		if gen != s.log.gen {
			s.log.old = append(s.log.old, logName(gen))
		}
	}
	if err := s.renew(gens[0] + 1); err != api.OK {
		return err
	}
	needed := []string{logName(s.log.gen)}
	for _, f := range s.files {
		if f.laid {
			needed = append(needed, f.name())
		}
	}
	slices.Sort(needed)
	err := s.each(func(m int) api.Errno { return tidy(s.volumes[m], needed) })
	if err != api.OK {
		return err
	}
	return s.enter()
}

// tidy leaves a member of the stripe's files those that are needed.
func tidy(v api.Volume, needed []string) api.Errno {
	names, err := v.List()
	if err != api.OK {
		return err
	}
	var strays []string
	for _, name := range names {
		if _, is := slices.BinarySearch(needed, name); !is && isOurs(name) {
			strays = append(strays, name)
		}
	}
	return discard(v, strays)
}
