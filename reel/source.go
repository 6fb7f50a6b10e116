package reel

import (
	"iter"

	"sluice/api"
	"sluice/grain"
)

// source is a file whose chunks are read, front to back.
type source struct {
	v      api.Volume
	name   string
	buf    []byte
	size   int64 // of the file, as it was at first
	at     int64 // so many bytes have been read
	number int64 // of the next chunk
	title  api.Title
	total  totals    // of the data chunks that have been read
	done   bool      // the end was read, and nothing is wrong
	code   api.Errno // the fault, behind which no more is read
}

// begin asks for the size and reads the title.
func (s *source) begin() api.Errno {
	size, err := s.v.Size(s.name)
	if err != api.OK {
		return err
	}
	s.size = size
	_, body, err := s.chunk()
	if err != api.OK {
		return err
	}
	title := body.title()
	if !titled(title) {
		return api.ErrTitle
	}
	s.title = title
	return api.OK
}

// read reads so many bytes into the front of the buffer. The third index keeps a volume from what lies behind them.
func (s *source) read(n int) (record, api.Errno) {
	if int64(n) > s.size-s.at {
		return nil, api.ErrTorn
	}
	into := s.buf[:n:n]
	if err := fill(s.v, s.name, s.at, into); err != api.OK {
		return nil, err
	}
	s.at += int64(n)
	return into, api.OK
}

// chunk reads the next chunk. Its body is a view of the buffer, where it has taken the head's place.
func (s *source) chunk() (head, record, api.Errno) {
	top, err := s.read(api.ChunkHead)
	if err != api.OK {
		return head{}, nil, err
	}
	h, ok := readHead(top)
	switch {
	case !ok:
		return head{}, nil, api.ErrChunk
	case !s.fits(h):
		return head{}, nil, api.ErrOrder
	case h.length > int64(len(s.buf)):
		return head{}, nil, api.ErrRoom
	}
	body, err := s.read(int(h.length))
	switch {
	case err != api.OK:
		return head{}, nil, err
	case grain.CRC(body) != h.sum:
		return head{}, nil, api.ErrBody
	}
	s.number++
	return h, body, api.OK
}

// fits tells whether a chunk with this head may stand here (P6.1): what may be is made of what it says, and it must be all of that.
func (s *source) fits(h head) bool {
	want := head{kind: kindEnd, number: s.number, length: api.EndSize, sum: h.sum}
	switch {
	case s.number == 0:
		want.kind, want.length = kindTitle, api.TitleSize
	case h.kind == kindData:
		want.kind, want.records, want.length = kindData, max(h.records, 1), h.records*int64(s.title.Width)
	}
	return h == want && h.length <= api.MaxChunk
}

// next reads the next chunk and tells its body, if it is data. Else there is none, and done or code says why.
func (s *source) next() record {
	if s.done || s.code != api.OK {
		return nil
	}
	h, body, err := s.chunk()
	switch {
	case err != api.OK:
		s.code = err
		return nil
	case h.kind == kindEnd:
		s.code = s.ending(body.totals())
		s.done = s.code == api.OK
		return nil
	}
	s.total.records += h.records
	s.total.sum = grain.More(s.total.sum, body)
	return body
}

// ending tells what is wrong with the end of the file.
func (s *source) ending(told totals) api.Errno {
	switch {
	case told != s.total:
		return api.ErrTotal
	case s.at < s.size:
		return api.ErrBehind
	}
	return api.OK
}

// bodies tells the bodies of the data chunks that are left, each till the next one is read.
func (s *source) bodies() iter.Seq[record] {
	return func(yield func(record) bool) {
		for body := s.next(); body != nil; body = s.next() {
			if !yield(body) {
				return
			}
		}
	}
}
