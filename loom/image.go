package loom

import (
	"sluice/api"
	"sluice/grain"
)

const (
	mark    = "LOOM"
	version = 1
)

// image is a code's bytes, one number behind the other.
type image []byte

func (b *image) put(width int, v uint64) {
	at := len(*b)
	*b = append(*b, make([]byte, width)...)
	grain.Put(*b, at, width, v)
}

func (b *image) putKinds(kinds ...api.WordKind) {
	for _, kind := range kinds {
		b.put(1, uint64(kind))
	}
}

// Encode lays a code down in bytes (P11.9).
func Encode(c api.Code) (string, api.Errno) {
	if !newTable().takes(&c) {
		return "", api.ErrCode
	}
	b := image(mark)
	b.put(1, version)
	b.put(1, uint64(c.Words))
	b.putKinds(c.State[:]...)
	b.putKinds(c.Agg[:]...)
	b.putKinds(c.Ctl[:]...)
	b.putKinds(c.MsgA, c.MsgB)
	for _, n := range [...]int{c.Sink.A, int(c.Sink.MonA), c.Sink.B, int(c.Sink.MonB)} {
		b.put(1, uint64(n))
	}
	b.put(1, truth(c.Both))
	for _, list := range c.Hands {
		b.put(2, uint64(len(list)))
		for _, ins := range list {
			b.put(1, uint64(ins.Op))
			b.put(8, uint64(ins.Arg))
		}
	}
	b.put(4, uint64(grain.CRC(b)))
	return string(b), api.OK
}

// take takes a number off the beginning; behind the end there are zeros.
func (b *image) take(width int) uint64 {
	v, err := grain.Get(*b, 0, width)
	if err != api.OK {
		*b = nil
		return 0
	}
	*b = (*b)[width:]
	return v
}

func (b *image) takeKinds(kinds []api.WordKind) {
	for i := range kinds {
		kinds[i] = api.WordKind(b.take(1))
	}
}

// Decode reads them (P11.10).
func Decode(b string) (api.Code, api.Errno) {
	c := likely(image(b))
	if again, err := Encode(c); err != api.OK || again != b {
		return api.Code{}, api.ErrImage
	}
	return c, api.OK
}

// likely is the code that bytes are those of, if they are some code's.
func likely(b image) api.Code {
	var c api.Code
	b.take(len(mark) + 1)
	c.Words = int(b.take(1))
	b.takeKinds(c.State[:])
	b.takeKinds(c.Agg[:])
	b.takeKinds(c.Ctl[:])
	c.MsgA, c.MsgB = api.WordKind(b.take(1)), api.WordKind(b.take(1))
	c.Sink.A, c.Sink.MonA = int(b.take(1)), api.Monoid(b.take(1))
	c.Sink.B, c.Sink.MonB = int(b.take(1)), api.Monoid(b.take(1))
	c.Both = b.take(1) == 1
	for hand := range c.Hands {
		count := b.take(2)
		for range min(count, uint64(len(b))) {
			c.Hands[hand] = append(c.Hands[hand], api.Ins{Op: int(b.take(1)), Arg: int64(b.take(8))})
		}
	}
	return c
}
