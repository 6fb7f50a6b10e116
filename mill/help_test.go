package mill_test

import (
	"math"
	"math/rand/v2"
	"slices"
	"strconv"
	"strings"
	"testing"

	"sluice/api"
	"sluice/mill"
	"sluice/purse"
	"sluice/quay"
)

// What is room and words enough for all that stands here.
const (
	roomy   = 1 << 26
	wealthy = 1 << 20
)

// open makes a mill with room and words enough.
func open(t testing.TB, disks int, plans ...[]api.Fault) *mill.Mill {
	t.Helper()
	return openAs(t, api.Setup{Disks: disks, Quota: roomy, Plans: plans, Budget: wealthy})
}

func openAs(t testing.TB, s api.Setup) *mill.Mill {
	t.Helper()
	m, e := mill.New(s)
	if e != api.OK || m == nil {
		t.Fatalf("P19.1: %+v: %d", s, e)
	}
	return m
}

// lines tells a text, each line with its end.
func lines(l ...string) string {
	var b strings.Builder
	for _, line := range l {
		b.WriteString(line + "\n")
	}
	return b.String()
}

// ask is what a job asks for: the kernel and what its fields say, as texts; those that are empty are not said.
type ask struct {
	kernel string
	fields []string // name and value, two and two
}

func askOf(kernel string, fields ...string) ask { return ask{kernel, fields} }

// value tells what a field says, or what stands for it.
func (a ask) value(name, usual string) string {
	for i := 0; i < len(a.fields); i += 2 {
		if a.fields[i] == name {
			return a.fields[i+1]
		}
	}
	return usual
}

func (a ask) number(name, usual string) uint64 {
	n, err := strconv.ParseUint(a.value(name, usual), 10, 64)
	if err != nil {
		panic(err)
	}
	return n
}

// job tells the job's text: named r, over the graph g, and more lines.
func (a ask) job(more ...string) string {
	return a.jobOf("r", "g", more...)
}

func (a ask) jobOf(run, graph string, more ...string) string {
	l := []string{"[job]", "name = " + run, "graph = " + graph, "kernel = " + a.kernel}
	for i := 0; i < len(a.fields); i += 2 {
		l = append(l, a.fields[i]+" = "+a.fields[i+1])
	}
	return lines(append(l, more...)...)
}

// world is a graph, and what is asked of it.
type world struct {
	ask
	n     uint32
	kind  api.EdgeKind
	both  bool
	edges []api.Edge
}

// names of formats in configurations, by their numbers.
var formatNames = [...]string{"", "binary", "snap", "dimacs", "matrix"}

// config tells the graph's configuration, named g, and more lines.
func (w world) config(f api.Format, more ...string) string {
	both := "no"
	if w.both {
		both = "yes"
	}
	return lines(append([]string{"[graph]", "name = g", "format = " + formatNames[f], "type = " + strconv.Itoa(int(w.kind)), "vertices = " + strconv.Itoa(int(w.n)), "both = " + both}, more...)...)
}

// input tells the graph's edges in a format.
func (w world) input(t testing.TB, f api.Format) []byte {
	t.Helper()
	text, e := quay.Print(f, w.kind, w.n, slices.Values(w.edges))
	if e != api.OK {
		t.Fatal(e)
	}
	return []byte(text)
}

// load lays the graph down.
func (w world) load(t testing.TB, m *mill.Mill, more ...string) (api.Graph, api.Errno) {
	t.Helper()
	return m.Load(w.config(api.FmtBinary, more...), w.input(t, api.FmtBinary))
}

// rowsOf tells the rows of a job to their end; they must come by vertices, rising.
func rowsOf(t testing.TB, m *mill.Mill, job string) ([]string, api.Errno) {
	t.Helper()
	table, e := m.Rows(job)
	if e != api.OK {
		if table != nil {
			t.Fatal("P19.6: a table with an error")
		}
		return nil, e
	}
	defer table.Close()
	var l []string
	for v, row := range table.All() {
		if int(v) != len(l) {
			t.Fatalf("P19.6: vertex %d behind %d", v, len(l))
		}
		l = append(l, row)
	}
	return l, table.Code()
}

// still asks that nothing is out, and that never was more than there is (P19.22).
func still(t testing.TB, m *mill.Mill, what string) {
	t.Helper()
	if words, used, high := m.Purse(); used != 0 || high > words {
		t.Fatalf("P19.22: %s: %d words are out, %d at most of %d", what, used, high, words)
	}
}

// must asks for OK.
func must(t testing.TB, what string, e api.Errno) {
	t.Helper()
	if e != api.OK {
		t.Fatalf("%s: %d", what, e)
	}
}

// between tells edges by their ends, two and two.
func between(ends ...uint32) (l []api.Edge) {
	for i := 0; i+1 < len(ends); i += 2 {
		l = append(l, api.Edge{Src: ends[i], Dst: ends[i+1]})
	}
	return l
}

// builtIn names the kernels beside code.
var builtIn = []string{"bfs", "reach", "wcc", "sssp", "mis", "colour", "kcore", "pagerank", "spmv", "conductance", "anf", "scc", "topo", "twocolour"}

// isBoth tells whether a kernel wants back edges.
func isBoth(kernel string) bool {
	return slices.Contains([]string{"wcc", "mis", "colour", "kcore", "scc", "topo", "twocolour"}, kernel)
}

// anyAsk tells a kernel's fields at random, now and then without one.
func anyAsk(rnd *rand.Rand, kernel string, n uint32) ask {
	a := ask{kernel: kernel}
	say := func(name, value string) {
		if rnd.IntN(5) > 0 {
			a.fields = append(a.fields, name, value)
		}
	}
	vertex := func() string { return strconv.Itoa(int(rnd.Uint32N(n))) }
	seed := func() { say("seed", strconv.FormatUint(rnd.Uint64N(1<<63)>>rnd.IntN(63), 10)) }
	switch kernel {
	case "bfs", "sssp":
		say("source", vertex())
	case "reach":
		l := []string{vertex()}
		for range rnd.IntN(4) {
			l = append(l, vertex())
		}
		say("sources", strings.Join(l, " "))
	case "mis", "colour", "spmv", "conductance":
		seed()
	case "pagerank":
		say("damp", []string{"0.5", "0.85", "1e-3", "0x1.8p-1", "0.99999", ".125"}[rnd.IntN(6)])
		say("rounds", strconv.Itoa(1+rnd.IntN(6)))
	case "anf":
		say("rounds", strconv.Itoa(1+rnd.IntN(6)))
		seed()
	}
	return a
}

// anyWeight tells a W of that kind, often one at a bound.
func anyWeight(rnd *rand.Rand, kind api.EdgeKind) uint32 {
	switch kind {
	case api.ECounted:
		return []uint32{0, 1, math.MaxUint32, 1 << 31, 1<<31 - 1, rnd.Uint32N(9), rnd.Uint32()}[rnd.IntN(7)]
	case api.EReal:
		return []uint32{0, 1, 0x3f800000, 0x7f7fffff, 0x007fffff, 0x7f000000 + rnd.Uint32N(1<<23), rnd.Uint32N(0x7f800000)}[rnd.IntN(7)] | uint32(rnd.IntN(2))<<31
	}
	return 0
}

// anyEdges tells edges among n vertices: none, few, many; ways and rings; perhaps none that closes a cycle, or makes a way round odd; with loops, and some several times.
func anyEdges(rnd *rand.Rand, n uint32) (edges []api.Edge) {
	most := []int{0, 1, int(n), int(n) * 2, int(n) * 4}[rnd.IntN(5)]
	for range rnd.IntN(most + 1) {
		edges = append(edges, between(rnd.Uint32N(n), rnd.Uint32N(n))...)
	}
	for range rnd.IntN(3) { // a ring through some, or a way
		order := rnd.Perm(int(n))[:1+rnd.IntN(int(n))]
		for i := rnd.IntN(2); i < len(order); i++ {
			edges = append(edges, between(uint32(order[(i+len(order)-1)%len(order)]), uint32(order[i]))...)
		}
	}
	switch order := rnd.Perm(int(n)); rnd.IntN(4) {
	case 0:
		edges = slices.DeleteFunc(edges, func(e api.Edge) bool { return order[e.Src] >= order[e.Dst] })
	case 1:
		edges = slices.DeleteFunc(edges, func(e api.Edge) bool { return order[e.Src]%2 == order[e.Dst]%2 })
	}
	for range rnd.IntN(4) {
		if len(edges) > 0 {
			edges = append(edges, edges[rnd.IntN(len(edges))])
		}
	}
	rnd.Shuffle(len(edges), func(i, j int) { edges[i], edges[j] = edges[j], edges[i] })
	return edges
}

// anyWorld tells a graph of at most so many vertices, and a job of the kernel.
func anyWorld(rnd *rand.Rand, kernel string, most uint32) world {
	n := 1 + rnd.Uint32N(most)
	w := world{ask: anyAsk(rnd, kernel, n), n: n, kind: api.EPlain + api.EdgeKind(rnd.IntN(3)), both: isBoth(kernel) || rnd.IntN(2) == 0, edges: anyEdges(rnd, n)}
	if kernel == "sssp" {
		w.kind = []api.EdgeKind{api.EPlain, api.ECounted, api.ECounted}[rnd.IntN(3)]
	}
	small := rnd.IntN(3) > 0
	for i := range w.edges {
		w.edges[i].W = anyWeight(rnd, w.kind)
		if w.kind == api.ECounted && small {
			w.edges[i].W = rnd.Uint32N(9) - uint32(rnd.IntN(2))
		}
	}
	return w
}

// kernelAt tells one of the kernels in turn.
func kernelAt(seed uint64) string { return builtIn[seed%uint64(len(builtIn))] }

// aPurse tells one of its own, for looking at what lies on a disk.
func aPurse(t testing.TB) *purse.Purse {
	t.Helper()
	p, e := purse.New(wealthy)
	must(t, "a purse", e)
	return p
}
