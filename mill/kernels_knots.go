package mill

import (
	"sluice/api"
	"sluice/audit"
	"sluice/knots"
)

// knotKernels are those of layer 16.
func knotKernels() map[string]kernel {
	return map[string]kernel{
		"scc": {
			back:   true,
			maker:  func(_ values, g api.Graph) (api.Program, api.Errno) { return programOf(knots.SCC(g.N)) },
			row:    func(s api.State, _ int) string { return orNone(knots.Knot(s)) },
			tells:  tellNone,
			places: 2,
			look: func(c court) (api.Verdict, api.Errno) {
				return audit.Sccs(c.graph.N, c.edges, c.states, c.words)
			},
		},
		"topo": {
			back:   true,
			maker:  func(_ values, g api.Graph) (api.Program, api.Errno) { return programOf(knots.Topo(g.N)) },
			row:    func(s api.State, _ int) string { return orNone(knots.Level(s)) },
			tells:  tellFirst,
			places: 1,
			look: func(c court) (api.Verdict, api.Errno) {
				return audit.TopoLevels(c.graph.N, c.edges, c.states, c.words)
			},
		},
		"twocolour": {
			back:   true,
			maker:  func(_ values, g api.Graph) (api.Program, api.Errno) { return programOf(knots.TwoColour(g.N)) },
			row:    func(s api.State, _ int) string { return orNone(knots.Colour(s)) },
			tells:  tellFirst,
			places: 2,
			look: func(c court) (api.Verdict, api.Errno) {
				return audit.TwoColours(c.graph.N, c.edges, c.states, c.words)
			},
		},
	}
}
