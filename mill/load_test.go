package mill_test

import (
	"slices"
	"strings"
	"testing"

	"sluice/api"
	"sluice/mill"
	"sluice/wheel"
)

// names tells the files of a disk.
func names(t testing.TB, m *mill.Mill) []string {
	t.Helper()
	l, e := m.Disk(0).List()
	must(t, "List", e)
	return l
}

// P19.3: the errors of Load in their order: of two faults the first is told; with an error all else is zero, and nothing is left.
func TestLoadRefuses(t *testing.T) {
	m := open(t, 1)
	w := world{n: 2, kind: api.EPlain, edges: between(0, 1)}
	_, e := w.load(t, m)
	must(t, "P19.3", e)
	before := names(t, m)
	config := func(l ...string) string { return lines(append([]string{"[graph]"}, l...)...) }
	for i, c := range []struct {
		config, input string
		want          api.Errno
	}{
		{"[graph", strings.Repeat("#", api.MaxInput+1), api.ErrLong},
		{"[graph\nname = G", "", api.ErrHead},
		{"\xff", "0 7", api.ErrRune},
		{strings.Repeat("#", api.MaxRoster+1), "", api.ErrLong},
		{"", "", api.ErrField},
		{"[job]\nname = g\n", "", api.ErrField},
		{config("format = dimacs"), "p", api.ErrField}, // no name, and a head that is wrong
		{config("name = h", "format = dimacs", "zz = 1"), "p", api.ErrField},
		{config("name = g", "format = dimacs"), "p sp 0 0\n", api.ErrHeader}, // a head that is wrong, and a graph that is there
		{config("name = g", "format = dimacs"), "", api.ErrHeader},
		{config("name = g", "format = matrix", "type = 2"), "%%MatrixMarket matrix coordinate real general\n1 1 0\n", api.ErrScale},
		{config("name = g", "format = snap"), "0 7\n", api.ErrField}, // vertices that nobody says
		{config("name = g"), "", api.ErrField},
		{config("name = g", "format = dimacs", "vertices = 3"), "p sp 2 0\n", api.ErrCount},
		{config("name = g", "format = matrix", "vertices = 3"), "%%MatrixMarket matrix coordinate pattern general\n2 2 1\n", api.ErrCount},
		{config("name = g", "vertices = 2", "parts = 3", "format = snap"), "0 7\n", api.ErrArg},
		{config("name = g", "vertices = 2", "format = snap"), "0 7\n", api.ErrThere},
		{config("name = h", "vertices = 2", "format = snap"), "0 1\n0 2\n", api.ErrNode},
		{config("name = h", "vertices = 2", "format = snap"), "0 1\n0\n", api.ErrToken},
		{config("name = h", "vertices = 2", "type = 3"), "\x00\x00\x00\x00\x01\x00\x00\x00\x00\x00\x80\x7f", api.ErrScale},
		{config("name = h", "vertices = 2"), "123", api.ErrRagged},
		{config("name = h", "format = dimacs"), "p sp 2 1\n", api.ErrCount},                                 // the input's own head
		{config("name = h", "vertices = 2", "edges = 1", "format = snap"), "0 1\n1 0\n0 7\n", api.ErrCount}, // one more, ahead of a wrong one
		{config("name = h", "vertices = 2", "edges = 1", "format = snap"), "0 1\n0 7\n", api.ErrNode},       // a wrong one in its place is no edge
		{config("name = h", "vertices = 2", "edges = 2", "format = snap"), "0 1\n", api.ErrCount},           // one too few
		{config("name = h", "vertices = 2", "edges = 2", "format = snap"), "0 7\n", api.ErrNode},
		{config("name = h", "vertices = 2", "edges = 0", "format = snap"), "0 1\n", api.ErrCount},
		{config("name = h", "vertices = 2", "edges = 1", "format = snap"), "", api.ErrCount},
		{config("name = h", "edges = 1", "format = matrix"), "%%MatrixMarket matrix coordinate pattern symmetric\n2 2 1\n2 1\n", api.ErrCount}, // an entry that stands for two edges
	} {
		g, e := m.Load(c.config, []byte(c.input))
		if g != (api.Graph{}) || e != c.want {
			t.Errorf("P19.3: case %d: %+v, %d, want %d", i, g, e, c.want)
		}
		still(t, m, "a Load that is refused")
	}
	if after := names(t, m); !slices.Equal(before, after) {
		t.Errorf("P19.3: %v are left of %v", after, before)
	}
}

// P19.3: what a configuration says is what is planted; workers and budget are not looked at; other sections neither.
func TestLoadGives(t *testing.T) {
	for i, c := range []struct {
		config []string
		input  string
		want   api.Graph
		edges  []api.Edge
	}{
		{[]string{"vertices = 5", "format = snap", "edges = 2"}, "0 1\n4 3\n", api.Graph{N: 5, Kind: api.EPlain, Parts: 1}, between(0, 1, 4, 3)},
		{[]string{"format = dimacs", "type = 2", "both = yes", "parts = 3"}, "p sp 4 1\na 4 1 -5\n", api.Graph{N: 4, Kind: api.ECounted, Parts: 3, Both: true}, []api.Edge{{Src: 3, Dst: 0, W: 0xfffffffb}}},
		{[]string{"format = dimacs", "vertices = 4", "budget = 0", "workers = 16"}, "p sp 4 0\n", api.Graph{N: 4, Kind: api.EPlain, Parts: 1}, nil},
		{[]string{"format = matrix", "type = 3", "edges = 2"}, "%%MatrixMarket matrix coordinate integer symmetric\n2 2 1\n2 1 1\n", api.Graph{N: 2, Kind: api.EReal, Parts: 1}, []api.Edge{{Src: 1, W: 0x3f800000}, {Dst: 1, W: 0x3f800000}}},
		{[]string{"vertices = 2147483647", "edges = 0"}, "", api.Graph{N: api.MaxVertices, Kind: api.EPlain, Parts: 1}, nil},
		{[]string{"vertices = 1", "format = snap", "[job]", "name = 7"}, "0 0\n", api.Graph{N: 1, Kind: api.EPlain, Parts: 1}, between(0, 0)},
	} {
		m := open(t, 1)
		input := []byte(c.input + "spare")[:len(c.input)]
		g, e := m.Load(lines(append([]string{"[graph]", "name = g"}, c.config...)...), input)
		must(t, "P19.3", e)
		c.want.Name, c.want.Edges, c.want.Sum = "g", int64(len(c.edges)), g.Sum
		if g != c.want {
			t.Errorf("P19.3: case %d: %+v, want %+v", i, g, c.want)
		}
		if string(input[:cap(input)][:len(c.input)+5]) != c.input+"spare" {
			t.Error("P0.1: the input was changed")
		}
		if found, e := wheel.Find(m.Disk(0), "g"); e != api.OK || found != g {
			t.Errorf("P19.3: case %d: %+v lies there", i, found)
		}
		if g.N > 100 {
			continue
		}
		if planted, e := drawn(t, m); e != api.OK || !slices.Equal(planted, c.edges) {
			t.Errorf("P19.3: case %d: %v, want %v", i, planted, c.edges)
		}
	}
}

// drawn tells the edges of g as they lie on one disk, by parts and sources.
func drawn(t testing.TB, m *mill.Mill) (l []api.Edge, err api.Errno) {
	t.Helper()
	s, e := wheel.Edges(m.Disk(0), aPurse(t), "g", 16)
	must(t, "Edges", e)
	defer s.Close()
	for e, code := range s.All() {
		if err = code; err == api.OK {
			l = append(l, e)
		}
	}
	return l, err
}

// P19.3: just MaxInput bytes are taken.
func TestLongestInput(t *testing.T) {
	line := strings.Repeat("#", 1023) + "\n"
	input := []byte("0 1\n" + strings.Repeat(line, api.MaxInput/1024-1))
	input = append(input, strings.Repeat("#", api.MaxInput-len(input))...)
	g, e := open(t, 1).Load(lines("[graph]", "name = g", "format = snap", "vertices = 2"), input)
	if len(input) != api.MaxInput || e != api.OK || g.Edges != 1 {
		t.Errorf("P19.3: %d bytes: %+v, %d", len(input), g, e)
	}
}

// P19.3: the purse and the disk may be too small.
func TestLoadIsTooSmall(t *testing.T) {
	w := world{n: 2, kind: api.EPlain, edges: between(0, 1)}
	for _, c := range []struct {
		s    api.Setup
		want api.Errno
	}{
		{api.Setup{Disks: 1, Quota: roomy, Budget: 100}, api.ErrSpent},
		{api.Setup{Disks: 1, Quota: 10, Budget: wealthy}, api.ErrQuota},
	} {
		m := openAs(t, c.s)
		if _, e := w.load(t, m); e != c.want || len(names(t, m)) != 0 {
			t.Errorf("P19.3: %+v: %d, %v", c.s, e, names(t, m))
		}
		still(t, m, "too small")
	}
}
