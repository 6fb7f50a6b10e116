package quay

import "sluice/api"

// form is what a line is there for.
type form int

const (
	formNothing form = iota // it tells nothing
	formTitle               // Matrix Market's first line
	formHead                // it says how many vertices and entries there are
	formEntry               // an edge, or two
	formLong                // it has more bytes than a line may have
	formStrange             // this format has no such line
	formStray               // a head behind another one, or an entry ahead of it
)

// ask takes a field as what must stand there, and tells what is wrong with it.
type ask func(*reader, string) api.Errno

// row is what the fields of a line must be, from left to right.
type row struct {
	asks  []ask
	spare int       // how many of the last ones may be left out
	err   api.Errno // what is told of a field that is missing, and of one too many
}

// reader is an input of lines while it is gone over.
type reader struct {
	order
	mark    byte   // what a line begins with that tells nothing
	lowest  uint64 // the number of the first vertex in the text
	heads   row
	entries row

	header   api.Header
	isHeaded bool
	told     int64    // entries so far
	lines    int      // lines so far
	unit     uint32   // the weight of an entry that tells none
	edge     api.Edge // of the entry that was read last
}

func (r *reader) head() (api.Header, api.Snag) {
	if r.isHeaded {
		return r.header, api.Snag{}
	}
	for l := range lines(r.input) {
		_, snag := r.take(l)
		if snag.Code != api.OK {
			return api.Header{}, snag
		}
		if r.isHeaded {
			return r.header, api.Snag{}
		}
	}
	return api.Header{}, r.missing()
}

func (r *reader) edges(yield func(api.Edge, api.Snag) bool) {
	var wrong api.Snag
reading:
	for l := range lines(r.input) {
		form, snag := r.take(l)
		switch {
		case snag.Code != api.OK:
			wrong = snag
			break reading
		case form != formEntry:
			continue reading
		}
		if !yield(r.edge, api.Snag{}) {
			return
		}
		if r.header.Twice && r.edge.Src != r.edge.Dst && !yield(turned(r.edge), api.Snag{}) {
			return
		}
	}
	if wrong.Code == api.OK {
		wrong = r.missing()
	}
	if wrong.Code != api.OK {
		yield(api.Edge{}, wrong)
	}
}

// turned is the same edge the other way.
func turned(e api.Edge) api.Edge { return api.Edge{Src: e.Dst, Dst: e.Src, W: e.W} }

// missing tells what should have come till the input's end and did not.
func (r *reader) missing() api.Snag {
	behind := line{number: r.lines + 1, at: len(r.input)}
	switch {
	case !r.isHeaded:
		return behind.wrong(api.ErrHeader, 0)
	case r.told < r.header.Edges:
		return behind.wrong(api.ErrCount, 0)
	}
	return api.Snag{}
}

// take reads a line; the edge of an entry is r.edge then.
func (r *reader) take(l line) (form, api.Snag) {
	r.lines = l.number
	first := l.first()
	form := r.formOf(l, first.text)
	var snag api.Snag
	switch form {
	case formLong:
		snag = l.wrong(api.ErrLong, 0)
	case formStrange:
		snag = l.wrong(api.ErrLine, first.at)
	case formStray:
		snag = l.wrong(api.ErrHeader, first.at)
	case formTitle:
		snag = r.takeTitle(l)
	case formHead:
		snag = r.read(l, r.heads)
		r.isHeaded = true
	case formEntry:
		snag = r.takeEntry(l, first.at)
	}
	return form, snag
}

// formOf tells what a line is there for, by its length, its first byte and its first field.
func (r *reader) formOf(l line, first string) form {
	if len(l.text) > api.MaxLine {
		return formLong
	}
	switch r.format {
	case api.FmtDimacs:
		return r.dimacsForm(first)
	case api.FmtMatrix:
		if l.number == 1 {
			return formTitle
		}
		fallthrough // its other lines are Snap's, but that the first that tells something is the head
	case api.FmtSnap:
		switch {
		case first == "" || l.text[0] == r.mark:
			return formNothing
		case !r.isHeaded:
			return formHead
		}
	}
	return formEntry
}

func (r *reader) dimacsForm(first string) form {
	switch first {
	case "", "c":
		return formNothing
	case "p":
		if !r.isHeaded {
			return formHead
		}
		return formStray
	case "a":
		if r.isHeaded {
			return formEntry
		}
		return formStray
	}
	return formStrange
}

// read takes the fields of a line as a row asks for them.
func (r *reader) read(l line, fields row) api.Snag {
	count := 0
	for f := range l.fields() {
		if count == len(fields.asks) {
			return l.wrong(fields.err, f.at)
		}
		if err := fields.asks[count](r, f.text); err != api.OK {
			return l.wrong(err, f.at)
		}
		count++
	}
	if count < len(fields.asks)-fields.spare {
		return l.wrong(fields.err, len(l.text))
	}
	return api.Snag{}
}

// takeEntry reads an entry whose first field begins at a byte of the line.
func (r *reader) takeEntry(l line, at int) api.Snag {
	if r.told == r.header.Edges {
		return l.wrong(api.ErrCount, at)
	}
	r.told++
	r.edge = api.Edge{W: r.unit}
	if snag := r.read(l, r.entries); snag.Code != api.OK {
		return snag
	}
	if r.header.Twice && r.edge.Src < r.edge.Dst {
		return l.wrong(api.ErrLine, at)
	}
	return api.Snag{}
}
