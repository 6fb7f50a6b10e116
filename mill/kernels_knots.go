package mill

import (
	"sluice/api"
	"sluice/audit"
	"sluice/knots"
)

// knotKernels are those of layer 16.
func knotKernels() map[string]kernel {
	return map[string]kernel{
		"scc": {
			back:   true,
			maker:  ofSize(knots.SCC),
			row:    func(s api.State, _ int) string { return orNone(knots.Knot(s)) },
			tells:  tellNone,
			places: 2,
			look:   bySize(audit.Sccs),
		},
		"topo": {
			back:   true,
			maker:  ofSize(knots.Topo),
			row:    func(s api.State, _ int) string { return orNone(knots.Level(s)) },
			tells:  tellFirst,
			places: 1,
			look:   bySize(audit.TopoLevels),
		},
		"twocolour": {
			back:   true,
			maker:  ofSize(knots.TwoColour),
			row:    func(s api.State, _ int) string { return orNone(knots.Colour(s)) },
			tells:  tellFirst,
			places: 2,
			look:   bySize(audit.TwoColours),
		},
	}
}
