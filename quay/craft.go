package quay

import "sluice/api"

// order is what is asked for: the edges of an input in this format, of this kind, for a graph of n vertices (0: of however many the input says).
type order struct {
	format api.Format
	kind   api.EdgeKind
	n      uint32
	input  string
}

// source is an input that is gone over, once.
type source interface {
	head() (api.Header, api.Snag)
	edges(yield func(api.Edge, api.Snag) bool)
}

// craft is how one format is read and printed.
type craft struct {
	open func(order) source
	top  func(*page) string    // what stands ahead of all rows
	row  func(*page, api.Edge) // an edge, behind those that stand there
}

// craftOf asks for a format that is one.
func craftOf(f api.Format) craft {
	crafts := [...]craft{
		api.FmtBinary: {order.binary, (*page).noTop, (*page).record},
		api.FmtSnap:   {order.snap, (*page).noTop, (*page).snapRow},
		api.FmtDimacs: {order.dimacs, (*page).dimacsTop, (*page).dimacsRow},
		api.FmtMatrix: {order.matrix, (*page).matrixTop, (*page).matrixRow},
	}
	return crafts[f]
}

// untold is the head of an input that says nothing of itself.
func untold() api.Header { return api.Header{N: -1, Edges: -1} }
