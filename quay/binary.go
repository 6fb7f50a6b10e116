package quay

import (
	"sluice/api"
	"sluice/grain"
)

const (
	half  = 4        // bytes of a number
	plain = 2 * half // bytes of a record of Src and Dst
	whole = 3 * half // bytes of a record that has a weight
)

// records is an input of records one behind the other.
type records struct{ order }

func (o order) binary() source { return records{o} }

// widthOf is how many bytes a record of this kind has.
func widthOf(k api.EdgeKind) int {
	if k == api.EPlain {
		return plain
	}
	return whole
}

func (r records) head() (api.Header, api.Snag) { return untold(), api.Snag{} }

func (r records) edges(yield func(api.Edge, api.Snag) bool) {
	width := widthOf(r.kind)
	at := 0
	for ; len(r.input)-at >= width; at += width {
		e := edgeOf(r.input[at : at+width])
		if err, behind := r.wrong(e); err != api.OK {
			yield(api.Edge{}, api.Snag{Code: err, At: at + behind})
			return
		}
		if !yield(e, api.Snag{}) {
			return
		}
	}
	if at < len(r.input) {
		yield(api.Edge{}, api.Snag{Code: api.ErrRagged, At: at})
	}
}

// edgeOf reads a record; what it has no bytes for is 0.
func edgeOf(record string) api.Edge {
	var b [whole]byte
	copy(b[:], record)
	number := func(at int) uint32 {
		v, _ := grain.Get(b[:], at, half)
		return uint32(v)
	}
	return api.Edge{Src: number(0), Dst: number(half), W: number(plain)}
}

// wrong tells why a record is no edge, and which byte of it says so.
func (r records) wrong(e api.Edge) (err api.Errno, at int) {
	switch {
	case e.Src >= r.n:
		return api.ErrNode, 0
	case e.Dst >= r.n:
		return api.ErrNode, half
	case r.kind == api.EReal && !isFinite(e.W):
		return api.ErrScale, plain
	}
	return api.OK, 0
}
