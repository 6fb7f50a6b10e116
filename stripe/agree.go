package stripe

import (
	"bytes"
	"slices"

	"sluice/api"
)

// accord is what members have agreed upon.
type accord struct {
	gen     uint32
	chart   chart // with the changes that all but one tell
	holders [api.MaxMembers]bool
}

// admit tells who is out, and refuses what are no members of one stripe in their order (P5.2).
func (s *Stripe) admit(views []view) api.Errno {
	outs, traces := 0, false
	for m, seen := range views {
		traces = traces || seen.traces
		if !seen.whole() {
			outs, s.out = outs+1, m
		}
	}
	switch {
	case outs < 2:
	case traces:
		return api.ErrTwo
	default:
		return api.ErrAlien
	}
	for m, seen := range views {
		for _, l := range seen.logs {
			if l.how != sound {
				continue
			}
			if l.members != s.members || l.member != m || s.unit != 0 && l.unit != s.unit {
				return api.ErrAlien
			}
			s.unit = l.unit
		}
	}
	return api.OK
}

// agree finds the newest log that all members but one have.
func (s *Stripe) agree(views []view) (accord, api.Errno) {
	for _, gen := range generations(views) {
		for _, seen := range views {
			log, ok := seen.log(gen)
			if !ok {
				continue
			}
			if holders := s.holders(views, log); s.enough(holders) && !overruled(views, log, holders) {
				return s.conclude(views, log, holders)
			}
		}
	}
	return accord{}, api.ErrTwo
}

// generations gives those of all logs that are sound, the newest first.
func generations(views []view) []uint32 {
	var gens []uint32
	for _, seen := range views {
		for _, l := range seen.logs {
			if l.how == sound {
				gens = append(gens, l.gen)
			}
		}
	}
	slices.Sort(gens)
	gens = slices.Compact(gens)
	slices.Reverse(gens)
	return gens
}

// holders tells which members have a log with this chart.
func (s *Stripe) holders(views []view, log relic) [api.MaxMembers]bool {
	var all [api.MaxMembers]bool
	for m, seen := range views {
		other, ok := seen.log(log.gen)
		all[m] = ok && !seen.veiled(log.gen) && bytes.Equal(other.chart, log.chart)
	}
	return all
}

// enough tells whether these are all members but one.
func (s *Stripe) enough(who [api.MaxMembers]bool) bool {
	n := 0
	for _, is := range who {
		if is {
			n++
		}
	}
	return n >= s.members-1
}

// overruled tells whether a log is of a Replace that has failed: one of the members that stayed has another in its place that is newer and does not know of it.
func overruled(views []view, log relic, holders [api.MaxMembers]bool) bool {
	c, ok := readChart(log.chart, log.members)
	if !ok || c.joining < 0 {
		return false
	}
	for m, seen := range views {
		for _, l := range seen.logs {
			if m == c.joining || holders[m] || l.how != sound || l.gen <= log.gen {
				continue
			}
			if newer, ok := readChart(l.chart, l.members); ok && newer.tenants[c.joining] < c.tenants[c.joining] {
				return true
			}
		}
	}
	return false
}

// conclude reads what the holders of a log agree upon. All but one must have had all that was durable. What a single one of them says of who is behind counts: it may be the only one left that has heard of it.
func (s *Stripe) conclude(views []view, log relic, holders [api.MaxMembers]bool) (accord, api.Errno) {
	best := s.longest(views, log.gen, holders)
	sure := holders
	for m, seen := range views {
		if held, _ := seen.log(log.gen); holders[m] && held.shared(best) == min(len(held.journal), len(best.journal)) {
			held.each(func(e entry) { leave(&sure, e) })
		}
	}
	ended := false
	for m, seen := range views {
		held, _ := seen.log(log.gen)
		ended = ended || sure[m] && held.rest != spoilt && len(held.journal) <= len(best.journal)
	}
	c, ok := readChart(log.chart, log.members)
	best.each(func(e entry) { ok = ok && c.apply(e) })
	if !ok || !ended || !s.enough(sure) {
		return accord{}, api.ErrTwo
	}
	return accord{log.gen, c, holders}, api.OK
}

// longest gives the most records that all members but one tell alike. What fewer tell was never answered.
func (s *Stripe) longest(views []view, gen uint32, holders [api.MaxMembers]bool) relic {
	best := relic{gen: gen}
	for m, seen := range views {
		if !holders[m] {
			continue
		}
		log, _ := seen.log(gen)
		var common []int
		for o, other := range views {
			if holders[o] {
				held, _ := other.log(gen)
				common = append(common, log.shared(held))
			}
		}
		slices.Sort(common)
		if end := common[len(common)-(s.members-1)]; end > len(best.journal) {
			n, _ := slices.BinarySearch(log.ends, end)
			best.journal, best.ends = log.journal[:end], log.ends[:n+1]
		}
	}
	return best
}

// leave takes in that a member was left out. (Whoever was so ahead of a log does not have it.)
func leave(sure *[api.MaxMembers]bool, e entry) {
	if e.kind != recordOut {
		return
	}
	s := scroll{rest: e.body}
	if m := s.number(1); !s.bad && m < api.MaxMembers {
		sure[m] = false
	}
}
