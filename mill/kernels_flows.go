package mill

import (
	"strconv"

	"sluice/api"
	"sluice/audit"
	"sluice/flows"
)

// flowKernels are those of layer 13.
func flowKernels() map[string]kernel {
	return map[string]kernel{
		"bfs": {
			fields: []field{sourceField()},
			maker:  func(v values, g api.Graph) (api.Program, api.Errno) { return programOf(flows.BFS(g.N, v.source)) },
			row:    hopsRow,
			tells:  tellTwo,
			places: 2,
			look: func(c court) (api.Verdict, api.Errno) {
				return audit.Levels(c.graph.N, c.source, c.edges, c.states, c.words)
			},
		},
		"reach": {
			fields: []field{sourcesField()},
			maker:  func(v values, g api.Graph) (api.Program, api.Errno) { return programOf(flows.Reach(g.N, v.sources...)) },
			row:    hopsRow,
			tells:  tellTwo,
			places: 2,
			look: func(c court) (api.Verdict, api.Errno) {
				return audit.Reached(c.graph.N, c.edges, c.states, c.words, c.sources...)
			},
		},
		"wcc": {
			back:   true,
			maker:  ofSize(flows.WCC),
			row:    func(s api.State, _ int) string { return orNone(flows.Label(s)) },
			tells:  tellFirst,
			places: 1,
			look:   bySize(audit.Labels),
		},
		"sssp": {
			fields: []field{sourceField()},
			whole:  true,
			maker: func(v values, g api.Graph) (api.Program, api.Errno) {
				return programOf(flows.SSSP(g.N, v.source, g.Kind))
			},
			row:    distanceRow,
			tells:  tellDistances,
			places: 1,
			look: func(c court) (api.Verdict, api.Errno) {
				return audit.Distances(c.graph.N, c.source, c.graph.Kind, c.edges, c.states, c.words)
			},
		},
	}
}

func hopsRow(s api.State, _ int) string {
	level, from, there := flows.Hops(s)
	if !there {
		return noRow
	}
	return decimal(level) + " " + decimal(uint64(from))
}

func distanceRow(s api.State, _ int) string {
	if flows.Negative(s) {
		return "negative"
	}
	distance, there := flows.Distance(s)
	if !there {
		return noRow
	}
	return strconv.FormatInt(distance, 10)
}

// tellDistances tells how many are reached, unless a cycle below zero is.
func tellDistances(agg api.State) [2]uint64 {
	if agg[1] != 0 {
		return [2]uint64{0, 1}
	}
	return tellFirst(agg)
}
