package mill

import (
	"maps"
	"strconv"

	"sluice/api"
	"sluice/audit"
	"sluice/grain"
)

// kernel is what a job can ask for: a row of chapter 19's table.
type kernel struct {
	fields []field
	rest   func(m *Mill, j *job) api.Errno // what becomes of entries that are no fields; nil: there may be none
	whole  bool                            // edges whose weights are reals are not taken
	back   bool                            // the graph must have back edges
	maker  func(v values, g api.Graph) (api.Program, api.Errno)
	row    func(s api.State, words int) string // of a state of which so many words are kept
	tells  func(agg api.State) [2]uint64
	places int                                    // of the room of words that looking at a result takes, a vertex; 0: it takes a state
	look   func(c court) (api.Verdict, api.Errno) // nil: it can't be looked at
}

// court is what a result is looked at with.
type court struct {
	values
	graph  api.Graph
	edges  audit.Edges
	states []api.State
	words  []uint64    // the room,
	room   []api.State // or this
}

// kernels has all of them, by name.
func kernels() map[string]kernel {
	all := map[string]kernel{}
	maps.Copy(all, flowKernels())
	maps.Copy(all, peelKernels())
	maps.Copy(all, rankKernels())
	maps.Copy(all, knotKernels())
	all["code"] = codeKernel()
	return all
}

// programOf hands a maker's program on: where it has made none, none.
func programOf[P api.Program](p P, err api.Errno) (api.Program, api.Errno) {
	if err != api.OK {
		return nil, err
	}
	return p, api.OK
}

// ofSize makes a program that asks for nothing but the number of vertices.
func ofSize[P api.Program](made func(n uint32) (P, api.Errno)) func(values, api.Graph) (api.Program, api.Errno) {
	return func(_ values, g api.Graph) (api.Program, api.Errno) { return programOf(made(g.N)) }
}

// bySize has the result of such a program looked at.
func bySize(look func(n uint32, edges audit.Edges, s []api.State, room []uint64) (api.Verdict, api.Errno)) func(court) (api.Verdict, api.Errno) {
	return func(c court) (api.Verdict, api.Errno) { return look(c.graph.N, c.edges, c.states, c.words) }
}

// What kernels tell of the whole, by the aggregate's words.

func tellNone(api.State) [2]uint64      { return [2]uint64{} }
func tellFirst(agg api.State) [2]uint64 { return [2]uint64{agg[0]} }
func tellTwo(agg api.State) [2]uint64   { return [2]uint64{agg[0], agg[1]} }

// noRow is the row of a vertex of which there is nothing to tell.
const noRow = "-"

func decimal(n uint64) string { return strconv.FormatUint(n, 10) }

// orNone is a row of one number, if there is one.
func orNone[N uint32 | uint64 | int](n N, there bool) string {
	if !there {
		return noRow
	}
	return decimal(uint64(n))
}

// realRow makes a row out of what tells a float32's bits.
func realRow(bits func(api.State) uint32) func(api.State, int) string {
	return func(s api.State, _ int) string { return grain.Dec(bits(s)) }
}
