package mill

import (
	"iter"

	"sluice/api"
	"sluice/quay"
	"sluice/roster"
	"sluice/wheel"
)

// Load lays a graph down: its configuration, a text, and its edges, in the format that the configuration names (P19.3).
func (m *Mill) Load(config string, input []byte) (api.Graph, api.Errno) {
	if err := m.begin(); err != api.OK {
		return api.Graph{}, err
	}
	if len(input) > api.MaxInput {
		return api.Graph{}, api.ErrLong
	}
	ss, err, _ := roster.Parse(config)
	if err != api.OK {
		return api.Graph{}, err
	}
	c, err, _ := roster.Graph(ss)
	if err != api.OK {
		return api.Graph{}, err
	}
	text := string(input)
	n, err := vertices(c, text)
	if err != api.OK {
		return api.Graph{}, err
	}
	g := api.Graph{Name: c.Name, N: n, Kind: c.Kind, Parts: c.Parts, Both: c.Both}
	return wheel.Plant(m.volume, m.purse, g, c.Batch, c.Fan, edges(c, n, text))
}

// vertices tells how many there are: the configuration says it, or the input, or both alike.
func vertices(c api.GraphConf, input string) (uint32, api.Errno) {
	head, snag := quay.Head(c.Format, c.Kind, input)
	switch {
	case snag.Code != api.OK:
		return 0, snag.Code
	case c.Vertices < 0 && head.N < 0:
		return 0, api.ErrField
	case c.Vertices < 0:
		return uint32(head.N), api.OK
	case head.N >= 0 && head.N != c.Vertices:
		return 0, api.ErrCount
	}
	return uint32(c.Vertices), api.OK
}

// edges tells those of the input; with an error, as the last, what is wrong with them, or that they are more or fewer than the configuration says.
func edges(c api.GraphConf, n uint32, input string) iter.Seq2[api.Edge, api.Errno] {
	return func(yield func(api.Edge, api.Errno) bool) {
		told := int64(0)
		for e, snag := range quay.Edges(c.Format, c.Kind, n, input) {
			err := snag.Code
			if told++; err == api.OK && c.Edges >= 0 && told > c.Edges {
				e, err = api.Edge{}, api.ErrCount
			}
			if !yield(e, err) || err != api.OK {
				return
			}
		}
		if told < c.Edges {
			yield(api.Edge{}, api.ErrCount)
		}
	}
}
