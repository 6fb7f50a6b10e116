package stripe

import (
	"slices"

	"sluice/api"
	"sluice/grain"
)

// A log is a file that every member has: a title (who the member is), a chart (who all members are, and the directory), and behind these what has become of it since. Each Open, and each Replace, begins one of the next generation; it holds as soon as all members but one have it. Where a chart says that a member lacks nothing, all files were on it, durable, ahead of the chart.
//
// A record is its kind, its number, its length, the sum of these; its body; the sum of all of it.
const (
	recordHead = 13
	recordTail = 4
	firstEntry = 2       // the number of the record behind the chart
	maxLog     = 1 << 16 // how much longer than what it tells a log may become
)

// Kinds of records.
const (
	recordTitle = 1 + iota
	recordChart
	recordChanges // of the directory
	recordSynced  // so many rows of a file are durable
	recordOut     // a member is left out: it lacks what comes from now on
)

// ledger is what a stripe knows of the log that it writes.
type ledger struct {
	gen     uint32
	seq     uint32 // of the next record
	size    int64  // its bytes on each member
	base    int64  // and those that it began with
	tenants [api.MaxMembers]uint32
	changes []byte   // of the directory, that no record tells yet
	noted   bool     // the log tells who is out
	stuck   bool     // members may differ in it: it takes no more
	old     []string // logs that members have beside it
}

// entry is a record that is to be written.
type entry struct {
	kind byte
	body []byte
}

// record puts a record behind b. Its sums hold in this log and at this number alone.
func record(b []byte, gen, seq uint32, e entry) []byte {
	at := len(b)
	b = append(b, e.kind)
	b = number(b, 4, uint64(seq))
	b = number(b, 4, uint64(len(e.body)))
	sum := grain.More(gen, b[at:])
	b = number(b, 4, uint64(sum))
	b = append(b, e.body...)
	return number(b, 4, uint64(grain.More(sum, e.body)))
}

// How what stands at the end of a log, or of a member's file, can be.
type state int

const (
	sound  state = iota
	cut          // there is not all of it: the power went
	spoilt       // it is not what was written
)

// nextRecord reads the record that b begins with, and tells its bytes.
func nextRecord(b []byte, gen, seq uint32) (entry, int, state) {
	if len(b) < recordHead {
		return entry{}, 0, cut
	}
	s := scroll{rest: b}
	kind, told, length, sum := byte(s.number(1)), s.number(4), s.number(4), s.number(4)
	if sum != uint64(grain.More(gen, b[:recordHead-4])) || told != uint64(seq) {
		return entry{}, 0, spoilt
	}
	end := recordHead + int(length)
	if len(b) < end+recordTail {
		return entry{}, 0, cut
	}
	body := b[recordHead:end]
	if got, _ := grain.Get(b, end, recordTail); got != uint64(grain.More(uint32(sum), body)) {
		return entry{}, 0, spoilt
	}
	return entry{kind, body}, end + recordTail, sound
}

// book is what a log begins with.
type book struct {
	layout
	gen   uint32
	chart chart
	bytes []byte // the chart's
}

// newChart tells who the members are, and the directory, as they are now.
func (s *Stripe) newChart() chart {
	c := chart{joining: -1, out: s.out, tenants: s.log.tenants, names: map[string]uint64{}, synced: map[uint64]uint32{}}
	for name, f := range s.files {
		c.names[name], c.synced[f.id] = f.id, f.held
	}
	return c
}

// newBook gives the beginning of a log.
func (s *Stripe) newBook(gen uint32, c chart) book {
	return book{s.layout, gen, c, c.lay(s.members)}
}

// lay gives the bytes that a member's log begins with.
func (b book) lay(m int) []byte {
	title := number(nil, 1, uint64(b.members))
	title = number(title, 1, uint64(m))
	title = number(title, 4, uint64(b.unit))
	title = number(title, 4, uint64(b.chart.tenants[m]))
	log := record(nil, b.gen, 0, entry{recordTitle, title})
	return record(log, b.gen, 1, entry{recordChart, b.bytes})
}

// begin begins a log on a member, durable, in a file of this name, and asks whether it is there. The last thing that is written is what makes it whole.
func (b book) begin(v api.Volume, m int, name string) api.Errno {
	if err := v.Create(name); err != api.OK {
		return err
	}
	if err := v.SyncDir(); err != api.OK {
		return err
	}
	laid := b.lay(m)
	if err := v.Append(name, laid); err != api.OK {
		return err
	}
	if err := v.Sync(name); err != api.OK {
		return err
	}
	return holds(v, name, int64(len(laid)))
}

// place begins a log on a member.
func (b book) place(v api.Volume, m int) api.Errno { return b.begin(v, m, logName(b.gen)) }

// takeUp goes on with a log that the members have.
func (s *Stripe) takeUp(b book, old ...string) {
	for _, f := range s.files {
		f.synced = f.held
	}
	size := int64(len(b.lay(0))) // all members' titles are of one length
	s.log = ledger{gen: b.gen, seq: firstEntry, size: size, base: size, tenants: b.chart.tenants, noted: true, old: old}
}

// renew begins a log of the directory as it is now on all members that are in. One that fails while it is begun is out, and that is to stand in the log: so another one is begun.
func (s *Stripe) renew(gen uint32) api.Errno {
	s.log.stuck = true // as long as some members may have the one, some the other
	old := append(s.log.old, logName(s.log.gen))
	for {
		out, b := s.out, s.newBook(gen, s.newChart())
		if err := s.each(func(m int) api.Errno { return b.place(s.volumes[m], m) }); err != api.OK {
			return err
		}
		if s.out == out {
			s.takeUp(b, old...)
			return s.enter()
		}
		old = append(old, logName(gen))
		gen++
	}
}

// tell makes records durable; or, in the place of a log that has become much longer than what it tells, it begins one that tells all.
func (s *Stripe) tell(entries ...entry) api.Errno {
	if len(entries) > 0 && s.log.size > 4*s.log.base+maxLog {
		return s.renew(s.log.gen + 1)
	}
	return s.enter(entries...)
}

// enter puts records, and whatever the log must tell beside them, behind each member's log, durable; and takes the logs before it off them, for of two that are there the older one may not come to hold again. That a member has failed in this is to be told too: so it goes on till all that are in hold all. Who is out stands ahead of what that one lacks: nobody may have heard of the one without the other.
func (s *Stripe) enter(entries ...entry) api.Errno {
	for {
		entries = append(s.notes(), entries...)
		if len(entries) == 0 && len(s.log.old) == 0 {
			return api.OK
		}
		if s.log.stuck {
			return s.verdict()
		}
		before := s.log
		var do func(m int) api.Errno
		if len(entries) > 0 {
			do = s.put(entries)
		} else {
			do = s.drop()
		}
		if err := s.each(do); err != api.OK {
			s.log = before
			s.log.stuck = true
			return err
		}
		entries = nil
	}
}

// put counts records as written, and tells how that is done to a member. As with files, nothing is put behind a log that has lost something.
func (s *Stripe) put(entries []entry) func(m int) api.Errno {
	var laid []byte
	for _, e := range entries {
		laid = record(laid, s.log.gen, s.log.seq, e)
		s.log.seq++
	}
	name, size := logName(s.log.gen), s.log.size
	s.log.size += int64(len(laid))
	s.log.noted = true
	return func(m int) api.Errno {
		v := s.volumes[m]
		if err := holds(v, name, size); err != api.OK {
			return err
		}
		if err := v.Append(name, laid); err != api.OK {
			return err
		}
		if err := v.Sync(name); err != api.OK {
			return err
		}
		return holds(v, name, size+int64(len(laid)))
	}
}

// drop counts the logs before this one as gone, and tells how that is done to a member. The oldest go first: if the power goes on the way, none may be left that is older than one that is gone.
func (s *Stripe) drop() func(m int) api.Errno {
	old := slices.Sorted(slices.Values(s.log.old))
	s.log.old = nil
	return func(m int) api.Errno { return discard(s.volumes[m], old) }
}

// notes gives what the log must tell ahead of an answer that rests on it.
func (s *Stripe) notes() []entry {
	if s.out < 0 || s.log.noted {
		return nil
	}
	return []entry{{recordOut, number(nil, 1, uint64(s.out))}}
}
