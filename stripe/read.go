package stripe

import (
	"iter"
	"sort"

	"sluice/api"
	"sluice/grain"
)

// block is how many bytes of a member are read or written at one time, if no single piece is longer.
const block = 1 << 16

// span is some rows of a run, and what members tell of them.
type span struct {
	s     *Stripe
	f     *file
	run   run
	first uint32 // row of the file
	count uint32
	asked [api.MaxMembers]int // 0, or 1 if the member was asked
	told  [api.MaxMembers][]byte
}

// spans cuts what holds a stretch of a file's contents into parts that can be read at one time.
func (s *Stripe) spans(f *file, from, to int64) iter.Seq[*span] {
	return func(yield func(*span) bool) {
		i := sort.Search(len(f.runs), func(i int) bool {
			r := f.runs[i]
			return r.from+int64(r.count)*int64(r.length) > from
		})
		for ; i < len(f.runs) && f.runs[i].from < to; i++ {
			r := f.runs[i]
			length := int64(r.length)
			next := uint32(max(0, from-r.from) / length)
			end := uint32(min(int64(r.count), (to-r.from+length-1)/length))
			for next < end {
				count := min(end-next, uint32(max(1, block/s.piece(r.length))))
				if !yield(&span{s: s, f: f, run: r, first: r.row + next, count: count}) {
					return
				}
				next += count
			}
		}
	}
}

// start tells where a row of it begins in the contents.
func (p *span) start(row uint32) int64 {
	return p.run.from + int64(row-p.run.row)*int64(p.run.length)
}

// bytes gives what a member tells; it is asked once.
func (p *span) bytes(m int) []byte {
	if p.asked[m] == 0 && m != p.s.out {
		size := p.s.piece(p.run.length)
		buffer := make([]byte, int64(p.count)*size)
		n, err := read(p.s.volumes[m], p.f.name(), p.run.at+int64(p.first-p.run.row)*size, buffer)
		if err != api.OK {
			p.s.failed[m] = err
		}
		p.told[m] = buffer[:n]
	}
	p.asked[m] = 1
	return p.told[m]
}

// piece gives the cell of a row that a member tells, if nothing of it is wrong.
func (p *span) piece(m int, row uint32) (stamp, []byte, bool) {
	size := int(p.s.piece(p.run.length))
	at := int(row-p.first) * size
	bytes := p.bytes(m)
	if len(bytes) < at+size {
		return stamp{}, nil, false
	}
	told, cell, ok := p.s.spot(p.f, row, m).whole(bytes[at : at+size])
	if !ok || told.length != p.run.length || told.gen != p.run.gen {
		p.s.fails(m)
		return stamp{}, nil, false
	}
	return told, cell, true
}

// fails counts a member as one that has failed, if it has not told its own error.
func (s *Stripe) fails(m int) {
	if s.failed[m] == api.OK {
		s.failed[m] = api.ErrIO
	}
}

func (s *Stripe) spot(f *file, row uint32, m int) spot {
	return spot{s.layout, f.id, row, m}
}

// cell gives the cell of a row that a member has, from that member or, if it can't, from all others.
func (p *span) cell(m int, row uint32) ([]byte, bool) {
	if _, cell, ok := p.piece(m, row); ok {
		return cell, true
	}
	var first stamp
	made := make([]byte, p.s.cell(p.run.length))
	for other := range p.s.members {
		if other == m {
			continue
		}
		told, cell, ok := p.piece(other, row)
		if !ok || first.length != 0 && told != first {
			return nil, false
		}
		first = told
		xor(made, cell)
	}
	return made, true
}

// row gives a whole row, if it can be told.
func (p *span) row(row uint32) ([]byte, bool) {
	data := make([]byte, p.run.length)
	if !p.fill(row, 0, data) {
		return nil, false
	}
	for m := range p.s.members {
		if told, _, ok := p.piece(m, row); ok {
			return data, told.sum == grain.CRC(data)
		}
	}
	return nil, false
}

// fill reads bytes of a row from a place on.
func (p *span) fill(row uint32, at int, into []byte) bool {
	size := p.s.cell(p.run.length)
	for len(into) > 0 {
		cell, ok := p.cell(p.s.holder(row, at/size), row)
		if !ok {
			return false
		}
		n := copy(into, cell[at%size:])
		at += n
		into = into[n:]
	}
	return true
}

// ReadAt reads bytes of a file (P5.3, P5.6).
func (s *Stripe) ReadAt(name string, at int64, into []byte) (int, api.Errno) {
	f, err := s.find(name)
	if err != api.OK {
		return 0, err
	}
	if at < 0 || at > f.size {
		return 0, api.ErrPlace
	}
	// What can't be told whole leaves the caller's buffer as it was.
	told := make([]byte, min(int64(len(into)), f.size-at))
	end := at + int64(len(told))
	for p := range s.spans(f, at, end) {
		for row := p.first; row < p.first+p.count; row++ {
			begins := p.start(row)
			low, high := max(at, begins), min(end, begins+int64(p.run.length))
			if !p.fill(row, int(low-begins), told[low-at:high-at]) {
				return 0, s.verdict()
			}
		}
	}
	return copy(into, told), api.OK
}

// inspect looks at every piece of a file: which members have one that is not right, and whether a part of the contents can't be told.
func (s *Stripe) inspect(f *file) (wrong [api.MaxMembers]bool, lost bool) {
	for p := range s.spans(f, 0, f.size) {
		for row := p.first; row < p.first+p.count; row++ {
			all := true
			for m := range s.members {
				if _, _, ok := p.piece(m, row); !ok {
					wrong[m], all = true, false
				}
			}
			lost = lost || !all && !p.fill(row, 0, make([]byte, p.run.length))
		}
	}
	return wrong, lost
}

// Scrub looks through all (P5.9).
func (s *Stripe) Scrub() (api.Scrubbed, api.Errno) {
	if !s.begin() {
		return api.Scrubbed{}, api.ErrNil
	}
	found := api.Scrubbed{Files: len(s.files)}
	for _, name := range s.sorted() {
		switch wrong, lost := s.inspect(s.files[name]); {
		case lost:
			found.Lost++
		case wrong != [api.MaxMembers]bool{}:
			found.Weak++
		}
	}
	return found, api.OK
}
