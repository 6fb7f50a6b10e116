package quay

import (
	"strconv"
	"strings"

	"sluice/api"
	"sluice/grain"
)

// page is a text that edges are printed on.
type page struct {
	kind api.EdgeKind
	n    uint32
	rows int // edges so far
	text strings.Builder
}

// refused tells why one more edge may not be printed.
func (p *page) refused(e api.Edge) api.Errno {
	switch {
	case p.rows == api.MaxPrinted:
		return api.ErrLong
	case e.Src >= p.n || e.Dst >= p.n:
		return api.ErrNode
	case p.kind == api.EPlain && e.W != 0, p.kind == api.EReal && !isFinite(e.W):
		return api.ErrScale
	}
	return api.OK
}

func (p *page) noTop() string { return "" }

func (p *page) dimacsTop() string {
	return "p " + ways + " " + decimal(p.n) + " " + strconv.Itoa(p.rows) + "\n"
}

func (p *page) matrixTop() string {
	field := fieldNames[p.kind-api.EPlain]
	return banner + " matrix coordinate " + field + " general\n" + decimal(p.n) + " " + decimal(p.n) + " " + strconv.Itoa(p.rows) + "\n"
}

func (p *page) record(e api.Edge) {
	var b [whole]byte
	for i, number := range [...]uint32{e.Src, e.Dst, e.W} {
		grain.Put(b[:], i*half, half, uint64(number))
	}
	p.text.Write(b[:widthOf(p.kind)])
}

func (p *page) snapRow(e api.Edge) { p.row("", e.Src, e.Dst, p.weight(e, "")) }

func (p *page) dimacsRow(e api.Edge) { p.row("a ", e.Src+1, e.Dst+1, p.weight(e, " 1")) }

func (p *page) matrixRow(e api.Edge) { p.row("", e.Src+1, e.Dst+1, p.weight(e, "")) }

// row writes a line; its weight brings the blank ahead of it along.
func (p *page) row(mark string, src, dst uint32, weight string) {
	p.text.WriteString(mark)
	p.text.WriteString(decimal(src))
	p.text.WriteByte(' ')
	p.text.WriteString(decimal(dst))
	p.text.WriteString(weight)
	p.text.WriteByte('\n')
}

// weight tells an edge's weight behind a blank, or what stands for it where the kind has none.
func (p *page) weight(e api.Edge, none string) string {
	switch p.kind {
	case api.ECounted:
		return " " + strconv.FormatInt(int64(int32(e.W)), 10)
	case api.EReal:
		return " " + grain.Dec(e.W)
	}
	return none
}

func decimal(number uint32) string { return strconv.FormatUint(uint64(number), 10) }
