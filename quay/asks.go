package quay

import "sluice/api"

// known is a field that the line's form has been told by.
func (r *reader) known(string) api.Errno { return api.OK }

func (r *reader) source(text string) (err api.Errno) {
	r.edge.Src, err = r.vertex(text)
	return err
}

func (r *reader) target(text string) (err api.Errno) {
	r.edge.Dst, err = r.vertex(text)
	return err
}

func (r *reader) vertex(text string) (uint32, api.Errno) {
	number, ok := readInteger(text)
	if !ok || number.negative {
		return 0, api.ErrToken
	}
	if number.size < r.lowest || number.size-r.lowest >= uint64(r.n) {
		return 0, api.ErrNode
	}
	return uint32(number.size - r.lowest), api.OK
}

// counted is the weight of an edge of kind ECounted.
func (r *reader) counted(text string) api.Errno {
	number, ok := readInteger(text)
	if !ok {
		return api.ErrToken
	}
	if r.edge.W, ok = number.counted(); !ok {
		return api.ErrScale
	}
	return api.OK
}

// real is the weight of an edge of kind EReal.
func (r *reader) real(text string) (err api.Errno) {
	r.edge.W, err = readReal(text)
	return err
}

// realOfInteger is the weight of an edge of kind EReal where the text has integers.
func (r *reader) realOfInteger(text string) api.Errno {
	if err := r.idleInteger(text); err != api.OK {
		return err
	}
	return r.real(text)
}

// idleInteger must be an integer, and is let go.
func (r *reader) idleInteger(text string) api.Errno {
	if _, ok := readInteger(text); !ok {
		return api.ErrToken
	}
	return api.OK
}

// idleReal must be a real in range, and is let go.
func (r *reader) idleReal(text string) api.Errno {
	_, err := readReal(text)
	return err
}

// orHeader is what is told of a field of a head.
func orHeader(right bool) api.Errno {
	if right {
		return api.OK
	}
	return api.ErrHeader
}

// vertices is how many vertices there are: as many as are asked for.
func (r *reader) vertices(text string) api.Errno {
	number, ok := readInteger(text)
	if ok {
		r.header.N, ok = number.within(api.MaxVertices)
	}
	return orHeader(ok && r.header.N > 0 && (r.n == 0 || r.header.N == int64(r.n)))
}

// columns is as many as there are rows.
func (r *reader) columns(text string) api.Errno {
	number, ok := readInteger(text)
	return orHeader(ok && !number.negative && number.size == uint64(r.header.N))
}

// count is how many entries there are.
func (r *reader) count(text string) api.Errno {
	number, ok := readInteger(text)
	if ok {
		r.header.Edges, ok = number.within(api.MaxSaid)
	}
	return orHeader(ok)
}
