package stripe

import (
	"maps"
	"slices"

	"sluice/api"
)

// chart is who the members are, and the directory, at the beginning of a log.
type chart struct {
	joining int                    // the member whose place a Replace gives away by this log; -1: it is of no Replace
	out     int                    // the member on which the log was not begun; -1: none. Two that were begun while each time another one was gone are not the same, whatever else they tell
	tenants [api.MaxMembers]uint32 // how manieth volume each member is in its place
	names   map[string]uint64      // the files' numbers
	synced  map[uint64]uint32      // how many rows of each are durable, by its number
}

// lay gives its bytes: the same for the same chart.
func (c chart) lay(members int) []byte {
	b := number(number(nil, 1, uint64(c.joining+1)), 1, uint64(c.out+1))
	for m := range members {
		b = number(b, 4, uint64(c.tenants[m]))
	}
	b = number(b, 4, uint64(len(c.names)))
	for _, name := range slices.Sorted(maps.Keys(c.names)) {
		id := c.names[name]
		b = number(number(text(b, name), 8, id), 4, uint64(c.synced[id]))
	}
	return b
}

// readChart reads what lay gives.
func readChart(b []byte, members int) (chart, bool) {
	s := scroll{rest: b}
	c := chart{joining: int(s.number(1)) - 1, out: int(s.number(1)) - 1, names: map[string]uint64{}, synced: map[uint64]uint32{}}
	for m := range members {
		c.tenants[m] = uint32(s.number(4))
	}
	for range s.number(4) {
		name, id := s.text(), s.number(8)
		c.names[name], c.synced[id] = id, uint32(s.number(4))
		if s.bad {
			break
		}
	}
	return c, !s.bad && len(s.rest) == 0 && c.joining < members && c.out < members
}

// apply takes in a record; false, if there is no such record.
func (c chart) apply(e entry) bool {
	s := scroll{rest: e.body}
	switch e.kind {
	case recordSynced:
		c.synced[s.number(8)] = uint32(s.number(4))
	case recordChanges:
		for len(s.rest) > 0 && !s.bad {
			c.change(&s)
		}
	}
	return !s.bad
}

// change makes the next change of the directory.
func (c chart) change(s *scroll) {
	kind, name := s.number(1), s.text()
	id := c.names[name]
	switch kind {
	case changeCreate:
		c.names[name] = s.number(8)
	case changeRename:
		delete(c.names, name)
		c.names[s.text()] = id
	case changeRemove:
		delete(c.names, name)
	default:
		s.bad = true
	}
}
