package stripe

import (
	"bytes"
	"slices"

	"sluice/api"
)

// relic is a log that lies on a member.
type relic struct {
	gen     uint32
	how     state // of its title and its chart; of others nothing but the generation is known
	members int
	member  int
	unit    int
	tenant  uint32
	chart   []byte
	journal []byte // the records behind the chart that are sound
	ends    []int  // where each of these ends
	rest    state  // of what stands behind them
}

// view is what a look at a member tells.
type view struct {
	traces bool // something of a stripe lies on it, or may do so
	names  []string
	logs   []relic
}

// look looks at a member.
func look(v api.Volume) view {
	names, err := v.List()
	if err != api.OK {
		return view{traces: true}
	}
	seen := view{traces: slices.ContainsFunc(names, isOurs), names: names}
	for _, name := range names {
		if gen, ok := genOf(name); ok {
			seen.logs = append(seen.logs, readLog(v, gen))
		}
	}
	return seen
}

// readLog reads a log.
func readLog(v api.Volume, gen uint32) relic {
	log := relic{gen: gen, how: spoilt}
	size, err := v.Size(logName(gen))
	if err != api.OK || size > api.MaxQuota {
		return log
	}
	var all []byte
	for at := int64(0); at < size; at += block { // whatever size it tells, there is no more than it gives
		b := make([]byte, min(block, size-at))
		if _, err := read(v, logName(gen), at, b); err != api.OK {
			return log
		}
		all = append(all, b...)
	}
	log.parse(all)
	return log
}

// parse reads the bytes of a log.
func (l *relic) parse(b []byte) {
	title, n, how := nextRecord(b, l.gen, 0)
	if l.how = how; how != sound {
		return
	}
	chart, m, how := nextRecord(b[n:], l.gen, 1)
	if l.how = how; how != sound {
		return
	}
	s := scroll{rest: title.body}
	l.members, l.member, l.unit, l.tenant = int(s.number(1)), int(s.number(1)), int(s.number(4)), uint32(s.number(4))
	l.chart = chart.body
	if title.kind != recordTitle || chart.kind != recordChart || s.bad {
		l.how = spoilt
		return
	}
	l.journal = b[n+m:]
	at := 0
	for at < len(l.journal) && l.rest == sound {
		_, n, how := nextRecord(l.journal[at:], l.gen, firstEntry+uint32(len(l.ends)))
		if l.rest = how; how == sound {
			at += n
			l.ends = append(l.ends, at)
		}
	}
	l.journal = l.journal[:at]
}

// whole tells whether a whole beginning of a stripe lies there.
func (w view) whole() bool {
	return slices.ContainsFunc(w.logs, func(l relic) bool { return l.how == sound })
}

// log gives the log of a generation, if it is sound.
func (w view) log(gen uint32) (relic, bool) {
	i := slices.IndexFunc(w.logs, func(l relic) bool { return l.gen == gen && l.how == sound })
	if i < 0 {
		return relic{}, false
	}
	return w.logs[i], true
}

// newest tells the generation of the newest log that is sound; 0: there is none.
func (w view) newest() uint32 {
	var most uint32
	for _, l := range w.logs {
		if l.how == sound {
			most = max(most, l.gen)
		}
	}
	return most
}

// veiled tells whether there is a log that is newer and can't be read: that one may be what holds.
func (w view) veiled(gen uint32) bool {
	return slices.ContainsFunc(w.logs, func(l relic) bool { return l.gen > gen && l.how == spoilt })
}

// tenant tells how manieth volume of its place it is.
func (w view) tenant() uint32 {
	var most uint32
	for _, l := range w.logs {
		if l.how == sound {
			most = max(most, l.tenant)
		}
	}
	return most
}

// shared tells how many bytes of records two logs have in common.
func (l relic) shared(other relic) int {
	same := 0
	for _, end := range l.ends {
		if end > len(other.journal) || !bytes.Equal(l.journal[same:end], other.journal[same:end]) {
			break
		}
		same = end
	}
	return same
}

// each goes through the records of a log.
func (l relic) each(tell func(e entry)) {
	at := 0
	for i, end := range l.ends {
		e, _, _ := nextRecord(l.journal[at:], l.gen, firstEntry+uint32(i))
		tell(e)
		at = end
	}
}
