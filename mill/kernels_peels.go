package mill

import (
	"sluice/api"
	"sluice/audit"
	"sluice/peels"
)

// peelKernels are those of layer 14.
func peelKernels() map[string]kernel {
	return map[string]kernel{
		"mis": {
			fields: []field{seedField()},
			back:   true,
			maker:  ordered(func(r api.Rank) (api.Program, api.Errno) { return programOf(peels.Set(r)) }),
			row:    setRow,
			tells:  tellNone,
			places: 1,
			look:   inOrder(audit.Independent),
		},
		"colour": {
			fields: []field{seedField()},
			back:   true,
			maker:  ordered(func(r api.Rank) (api.Program, api.Errno) { return programOf(peels.Colour(r)) }),
			row:    func(s api.State, _ int) string { return decimal(uint64(peels.ColourOf(s))) },
			tells:  tellNone,
			places: 1,
			look:   inOrder(audit.Coloured),
		},
		"kcore": {
			back:   true,
			maker:  func(values, api.Graph) (api.Program, api.Errno) { return peels.Core(), api.OK },
			row:    func(s api.State, _ int) string { return decimal(peels.CoreOf(s)) },
			tells:  tellNone,
			places: 2,
			look:   bySize(audit.Cores),
		},
	}
}

// ordered makes a program that goes by an order, out of the seed.
func ordered(by func(r api.Rank) (api.Program, api.Errno)) func(values, api.Graph) (api.Program, api.Errno) {
	return func(v values, g api.Graph) (api.Program, api.Errno) {
		r, err := peels.RankOf(g.N, v.seed)
		if err != api.OK {
			return nil, err
		}
		return by(r)
	}
}

// inOrder has a result looked at by the order that its program went by.
func inOrder(look func(r api.Rank, edges audit.Edges, s []api.State, room []uint64) (api.Verdict, api.Errno)) func(court) (api.Verdict, api.Errno) {
	return func(c court) (api.Verdict, api.Errno) {
		r, err := peels.RankOf(c.graph.N, c.seed)
		if err != api.OK {
			return api.Verdict{}, err
		}
		return look(r, c.edges, c.states, c.words)
	}
}

func setRow(s api.State, _ int) string {
	if peels.InSet(s) {
		return "in"
	}
	return "out"
}
