package stripe

import (
	"sluice/api"
	"sluice/grain"
)

// A piece is its head (the row's length, the log's generation in which it was laid, its sum; the head's sum), a cell, and the sum of all of it.
const (
	pieceHead = 16
	pieceTail = 4
)

// layout is how many members there are, and how many bytes a cell has at most.
type layout struct {
	members int
	unit    int
}

// full tells the bytes of the longest row: a cell of every member but one.
func (l layout) full() int { return (l.members - 1) * l.unit }

// cell tells the bytes of each cell of a row.
func (l layout) cell(length int) int { return (length + l.members - 2) / (l.members - 1) }

// piece tells the bytes of each piece of a row.
func (l layout) piece(length int) int64 { return int64(pieceHead + l.cell(length) + pieceTail) }

// holder tells which member has the k-th cell of a row; the last one is the parity. From row to row all move on by one, so that no member has all parities.
func (l layout) holder(row uint32, k int) int {
	return (int(row%uint32(l.members)) + 1 + k) % l.members
}

// cells cuts a row into the cells of all members. What the last ones lack is zeros.
func (l layout) cells(row uint32, data []byte) [api.MaxMembers][]byte {
	var all [api.MaxMembers][]byte
	size := l.cell(len(data))
	parity := make([]byte, size)
	for k := range l.members - 1 {
		cell := make([]byte, size)
		copy(cell, data[min(k*size, len(data)):])
		xor(parity, cell)
		all[l.holder(row, k)] = cell
	}
	all[l.holder(row, l.members-1)] = parity
	return all
}

// xor lays bytes over others.
func xor(onto, bytes []byte) {
	for i, b := range bytes {
		onto[i] ^= b
	}
}

// stamp is what every piece of a row says of the row. So pieces that were never laid down together are told apart.
type stamp struct {
	length int
	gen    uint32
	sum    uint32
}

// spot is where a piece belongs; its sums hold at no other one.
type spot struct {
	layout
	id     uint64
	row    uint32
	member int
}

func (p spot) seed() uint32 {
	b := number(nil, 8, p.id)
	b = number(b, 4, uint64(p.row))
	b = number(b, 1, uint64(p.member))
	b = number(b, 1, uint64(p.members))
	return grain.CRC(b)
}

// lay puts a piece behind b.
func (p spot) lay(b []byte, s stamp, cell []byte) []byte {
	at := len(b)
	b = number(b, 4, uint64(s.length))
	b = number(b, 4, uint64(s.gen))
	b = number(b, 4, uint64(s.sum))
	sum := grain.More(p.seed(), b[at:])
	b = number(b, 4, uint64(sum))
	b = append(b, cell...)
	return number(b, 4, uint64(grain.More(sum, cell)))
}

// head reads a piece's head. It has a sum of its own, since it says how long the piece is.
func (p spot) head(b []byte) (stamp, bool) {
	if len(b) < pieceHead {
		return stamp{}, false
	}
	s := scroll{rest: b}
	told := stamp{int(s.number(4)), uint32(s.number(4)), uint32(s.number(4))}
	ok := uint32(s.number(4)) == grain.More(p.seed(), b[:pieceHead-4])
	return told, ok && told.length >= 1 && told.length <= p.full()
}

// whole reads a piece, if b begins with one that belongs here and has nothing wrong.
func (p spot) whole(b []byte) (stamp, []byte, bool) {
	told, ok := p.head(b)
	if !ok || int64(len(b)) < p.piece(told.length) {
		return stamp{}, nil, false
	}
	end := pieceHead + p.cell(told.length)
	head, _ := grain.Get(b, pieceHead-4, 4)
	sum, _ := grain.Get(b, end, pieceTail)
	if sum != uint64(grain.More(uint32(head), b[pieceHead:end])) {
		return stamp{}, nil, false
	}
	return told, b[pieceHead:end], true
}
