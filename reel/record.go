package reel

import (
	"sluice/api"
	"sluice/grain"
)

// record is the bytes of one record, no more and no fewer than its form's width.
type record []byte

// number reads some bytes of it. It has them: its form has seen to that.
func (b record) number(at, width int) uint64 {
	x, _ := grain.Get(b, at, width)
	return x
}

func (b record) putText(s string) {
	clear(b[copy(b, s):])
}

func (b record) text() string { return string(b) }

func (b record) putPlain(e api.Edge) {
	grain.Put(b, 0, 4, uint64(e.Src))
	grain.Put(b, 4, 4, uint64(e.Dst))
}

func (b record) plain() api.Edge {
	return api.Edge{Src: uint32(b.number(0, 4)), Dst: uint32(b.number(4, 4))}
}

func (b record) putWeighted(e api.Edge) {
	b.putPlain(e)
	grain.Put(b, 8, 4, uint64(e.W))
}

func (b record) weighted() api.Edge {
	e := b.plain()
	e.W = uint32(b.number(8, 4))
	return e
}

func (b record) putUpdate(u api.Update) {
	grain.Put(b, 0, 4, uint64(u.To))
	grain.Put(b, 4, 8, u.A)
	grain.Put(b, 12, 8, u.B)
}

func (b record) update() api.Update {
	return api.Update{To: uint32(b.number(0, 4)), A: b.number(4, 8), B: b.number(12, 8)}
}

// putState lays down as many words as the form keeps.
func (b record) putState(s api.State) {
	for i := range len(b) / 8 {
		grain.Put(b, 8*i, 8, s[i])
	}
}

func (b record) state() api.State {
	var s api.State
	for i := range len(b) / 8 {
		s[i] = b.number(8*i, 8)
	}
	return s
}
