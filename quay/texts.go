package quay

import (
	"sluice/api"
	"sluice/grain"
)

const (
	snapMark   = '#'
	matrixMark = '%'
	banner     = "%%MatrixMarket"
	ways       = "sp"
)

// fieldNames are Matrix Market's, as they are printed for each kind from EPlain on.
var fieldNames = [...]string{"pattern", "integer", "real"}

const (
	fieldPattern = iota
	fieldInteger
	fieldReal
)

func (o order) snap() source {
	r := &reader{order: o, mark: snapMark, header: untold(), isHeaded: true}
	r.entries = row{asks: []ask{(*reader).source, (*reader).target}, err: api.ErrToken}
	if o.kind != api.EPlain {
		r.entries.asks = append(r.entries.asks, weightOf(o.kind))
	}
	return r
}

func (o order) dimacs() source {
	r := &reader{order: o, lowest: 1}
	r.heads = row{asks: []ask{(*reader).known, (*reader).shortestWays, (*reader).vertices, (*reader).count}, err: api.ErrHeader}
	r.entries = row{asks: []ask{(*reader).known, (*reader).source, (*reader).target, weightOf(o.kind)}, err: api.ErrToken}
	if o.kind == api.EPlain {
		r.entries.spare = 1
	}
	return r
}

func (o order) matrix() source {
	r := &reader{order: o, mark: matrixMark, lowest: 1}
	r.heads = row{asks: []ask{(*reader).vertices, (*reader).columns, (*reader).count}, err: api.ErrHeader}
	return r
}

// weightOf is what a weight of this kind must be, where a kind that has none lets go of an integer.
func weightOf(k api.EdgeKind) ask {
	asks := [...]ask{api.EPlain: (*reader).idleInteger, api.ECounted: (*reader).counted, api.EReal: (*reader).real}
	return asks[k]
}

// takeTitle reads Matrix Market's first line, which says what its entries are.
func (r *reader) takeTitle(l line) api.Snag {
	title := []ask{(*reader).bannerWord, (*reader).matrixWord, (*reader).coordinateWord, (*reader).fieldWord, (*reader).symmetryWord}
	return r.read(l, row{asks: title, err: api.ErrHeader})
}

func (r *reader) shortestWays(text string) api.Errno { return orHeader(text == ways) }

func (r *reader) bannerWord(text string) api.Errno { return orHeader(text == banner) }

func (r *reader) matrixWord(text string) api.Errno { return orHeader(isWord(text, "matrix")) }

func (r *reader) coordinateWord(text string) api.Errno { return orHeader(isWord(text, "coordinate")) }

func (r *reader) fieldWord(text string) api.Errno {
	for f, name := range fieldNames {
		if isWord(text, name) {
			r.header.Field = name
			return r.takeField(f)
		}
	}
	return api.ErrHeader
}

// takeField lays down what entries of this field are for the kind that is asked for.
func (r *reader) takeField(f int) api.Errno {
	r.entries = row{asks: []ask{(*reader).source, (*reader).target}, err: api.ErrToken}
	switch {
	case f == fieldPattern:
		units := [...]uint32{api.EPlain: 0, api.ECounted: 1, api.EReal: grain.Bits(1)}
		r.unit = units[r.kind]
	case f == fieldReal && r.kind == api.ECounted:
		return api.ErrScale
	default:
		asks := [...][4]ask{
			fieldInteger: {api.EPlain: (*reader).idleInteger, api.ECounted: (*reader).counted, api.EReal: (*reader).realOfInteger},
			fieldReal:    {api.EPlain: (*reader).idleReal, api.EReal: (*reader).real},
		}
		r.entries.asks = append(r.entries.asks, asks[f][r.kind])
	}
	return api.OK
}

func (r *reader) symmetryWord(text string) api.Errno {
	r.header.Twice = isWord(text, "symmetric")
	return orHeader(r.header.Twice || isWord(text, "general"))
}
