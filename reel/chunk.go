package reel

import (
	"sluice/api"
	"sluice/grain"
)

// Kinds of chunks.
const (
	kindTitle = 1
	kindData  = 2
	kindEnd   = 3
)

const (
	letters   = "RL"
	layout    = 1         // the byte behind the kind
	summed    = 20        // bytes of a head that its own sum goes over
	maxNumber = 1<<32 - 2 // the greatest number of a chunk
)

// head is what a chunk's head says.
type head struct {
	kind    int
	number  int64
	records int64
	length  int64
	sum     uint32 // of the body
}

// lay puts the head into the first bytes of b.
func (h head) lay(b []byte) {
	copy(b, letters)
	b[2], b[3] = byte(h.kind), layout
	grain.Put(b, 4, 4, uint64(h.number))
	grain.Put(b, 8, 4, uint64(h.records))
	grain.Put(b, 12, 4, uint64(h.length))
	grain.Put(b, 16, 4, uint64(h.sum))
	grain.Put(b, summed, 4, uint64(grain.CRC(b[:summed])))
}

// readHead reads what lay has put down; false, if it is no head, or not as it was put down.
func readHead(b record) (head, bool) {
	h := head{int(b[2]), int64(b.number(4, 4)), int64(b.number(8, 4)), int64(b.number(12, 4)), uint32(b.number(16, 4))}
	ok := string(b[:2]) == letters && b[3] == layout && b.number(summed, 4) == uint64(grain.CRC(b[:summed]))
	return h, ok
}

// titled tells whether a title is right.
func titled(t api.Title) bool {
	return t.Family >= 1 && t.Family <= 255 && t.Width >= 1 && t.Width <= api.MaxRecord
}

func (b record) putTitle(t api.Title) {
	grain.Put(b, 0, 2, uint64(t.Family))
	grain.Put(b, 2, 2, uint64(t.Width))
	grain.Put(b, 4, 8, t.Tag)
}

func (b record) title() api.Title {
	return api.Title{Family: int(b.number(0, 2)), Width: int(b.number(2, 2)), Tag: b.number(4, 8)}
}

// totals is what an end says of all data chunks together.
type totals struct {
	records int64
	sum     uint32
}

func (b record) putTotals(t totals) {
	grain.Put(b, 0, 8, uint64(t.records))
	grain.Put(b, 8, 4, uint64(t.sum))
}

func (b record) totals() totals {
	return totals{int64(b.number(0, 8)), uint32(b.number(8, 4))}
}
