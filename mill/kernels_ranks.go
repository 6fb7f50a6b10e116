package mill

import (
	"sluice/api"
	"sluice/audit"
	"sluice/ranks"
)

// rankKernels are those of layer 15.
func rankKernels() map[string]kernel {
	return map[string]kernel{
		"pagerank": {
			fields: []field{dampField(), roundsField("20")},
			maker: func(v values, g api.Graph) (api.Program, api.Errno) {
				return programOf(ranks.PageRank(g.N, v.damp, v.rounds))
			},
			row:   realRow(ranks.Rank),
			tells: tellNone,
			look: func(c court) (api.Verdict, api.Errno) {
				return audit.Ranks(c.graph.N, c.damp, c.rounds, c.edges, c.states, c.room)
			},
		},
		"spmv": {
			fields: []field{seedField()},
			maker: func(v values, g api.Graph) (api.Program, api.Errno) {
				return programOf(ranks.SpMV(g.N, g.Kind, v.seed))
			},
			row:   realRow(ranks.Product),
			tells: tellNone,
			look: func(c court) (api.Verdict, api.Errno) {
				return audit.Products(c.graph.N, c.graph.Kind, c.seed, c.edges, c.states, c.room)
			},
		},
		"conductance": {
			fields: []field{seedField()},
			maker:  func(v values, g api.Graph) (api.Program, api.Errno) { return programOf(ranks.Conductance(g.N, v.seed)) },
			row:    func(s api.State, _ int) string { return decimal(ranks.Crossing(s)) },
			tells:  func(agg api.State) [2]uint64 { return [2]uint64{agg[0], uint64(ranks.Share(agg))} },
			places: 1,
			look: func(c court) (api.Verdict, api.Errno) {
				return audit.Crossings(c.graph.N, c.seed, c.edges, c.states, c.words)
			},
		},
		"anf": {
			fields: []field{roundsField("10"), seedField()},
			maker: func(v values, g api.Graph) (api.Program, api.Errno) {
				return programOf(ranks.HyperANF(g.N, v.rounds, v.seed))
			},
			row:    realRow(ranks.Size),
			tells:  func(agg api.State) [2]uint64 { return [2]uint64{uint64(ranks.Pairs(agg))} },
			places: 2,
			look: func(c court) (api.Verdict, api.Errno) {
				return audit.Registers(c.graph.N, c.rounds, c.seed, c.edges, c.states, c.words)
			},
		},
	}
}
