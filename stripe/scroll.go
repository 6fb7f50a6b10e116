package stripe

import "sluice/grain"

// number puts a number behind b.
func number(b []byte, width int, v uint64) []byte {
	at := len(b)
	var room [8]byte
	b = append(b, room[:width]...)
	grain.Put(b, at, width, v)
	return b
}

// text puts a name behind b, with its length ahead of it.
func text(b []byte, name string) []byte {
	return append(number(b, 1, uint64(len(name))), name...)
}

// scroll reads what number and text have put down.
type scroll struct {
	rest []byte
	bad  bool // more was asked for than is there
}

func (s *scroll) number(width int) uint64 {
	v, err := grain.Get(s.take(width), 0, width)
	s.bad = s.bad || err != 0
	return v
}

func (s *scroll) text() string {
	return string(s.take(int(s.number(1))))
}

func (s *scroll) take(n int) []byte {
	if n > len(s.rest) {
		s.bad = true
		return nil
	}
	taken := s.rest[:n]
	s.rest = s.rest[n:]
	return taken
}
