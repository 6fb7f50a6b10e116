package mill_test

import (
	"hash/crc32"
	"slices"
	"strings"
	"testing"

	"sluice/api"
	"sluice/mill"
	"sluice/wheel"
)

// done is a mill with the graph g and a run r of a job over it, and what that has told.
func done(t testing.TB, w world, job string) (*mill.Mill, api.Outcome) {
	t.Helper()
	m := open(t, 1)
	_, e := w.load(t, m)
	must(t, "P19.3", e)
	o, e := m.Run(job)
	must(t, "P19.4: "+w.kernel, e)
	return m, o
}

// P19.4, P19.6, P19.7: each kernel's rows and Tells over graphs of a few edges, written out.
func TestKernels(t *testing.T) {
	const none = api.EdgeKind(0) // plain
	for _, c := range []struct {
		w     world
		rows  []string
		tells [2]uint64
	}{
		{world{ask: askOf("bfs"), n: 5, edges: between(0, 1, 0, 2, 2, 1, 1, 3)}, []string{"0 0", "1 0", "1 0", "2 1", "-"}, [2]uint64{4, 2}},
		{world{ask: askOf("bfs", "source", "2"), n: 5, edges: between(0, 1, 0, 2, 2, 1, 1, 3)}, []string{"-", "1 2", "0 2", "2 1", "-"}, [2]uint64{3, 2}},
		{world{ask: askOf("reach"), n: 3, edges: between(0, 1)}, []string{"0 0", "1 0", "-"}, [2]uint64{2, 1}},
		{world{ask: askOf("reach", "sources", "2 0"), n: 5, edges: between(0, 1, 0, 2, 2, 1, 1, 3)}, []string{"0 0", "1 0", "0 2", "2 0", "-"}, [2]uint64{4, 2}},
		{world{ask: askOf("wcc"), n: 4, both: true, edges: between(3, 1, 2, 2)}, []string{"0", "1", "2", "1"}, [2]uint64{3, 0}},
		{world{ask: askOf("sssp"), n: 4, edges: between(0, 1, 1, 2)}, []string{"0", "1", "2", "-"}, [2]uint64{3, 0}},
		{world{ask: askOf("sssp", "source", "1"), n: 3, kind: api.ECounted, edges: []api.Edge{{Src: 1, Dst: 0, W: 0xfffffffd}, {Src: 0, Dst: 2, W: 1}}}, []string{"-3", "0", "-2"}, [2]uint64{3, 0}},
		{world{ask: askOf("sssp"), n: 2, kind: api.ECounted, edges: []api.Edge{{W: 0xffffffff}}}, []string{"negative", "negative"}, [2]uint64{0, 1}},
		{world{ask: askOf("mis"), n: 4, both: true, edges: between(0, 1, 1, 2, 2, 3)}, []string{"in", "out", "in", "out"}, [2]uint64{}},
		{world{ask: askOf("mis", "seed", "3"), n: 4, both: true, edges: between(0, 1, 1, 2, 2, 3)}, []string{"out", "in", "out", "in"}, [2]uint64{}}, // priorities 3, 0, 1, 2
		{world{ask: askOf("colour"), n: 3, both: true, edges: between(0, 1, 1, 2, 2, 0)}, []string{"0", "1", "2"}, [2]uint64{}},
		{world{ask: askOf("colour", "seed", "1"), n: 3, both: true, edges: between(0, 1, 1, 2, 2, 0)}, []string{"1", "2", "0"}, [2]uint64{}}, // priorities 1, 2, 0
		{world{ask: askOf("kcore"), n: 4, both: true, edges: between(0, 1, 1, 2, 2, 0, 2, 3)}, []string{"2", "2", "2", "1"}, [2]uint64{}},
		{world{ask: askOf("pagerank", "damp", "0.5", "rounds", "2"), n: 2, edges: between(0, 1)}, []string{"4.06250000e-01", "5.93750000e-01"}, [2]uint64{}},
		{world{ask: askOf("spmv"), n: 2, kind: api.EReal, edges: []api.Edge{{Dst: 1, W: 0x40000000}, {Dst: 1, W: 0xc0000000}}}, []string{"0.00000000e+00", "0.00000000e+00"}, [2]uint64{}},
		{world{ask: askOf("conductance"), n: 1, edges: between(0, 0)}, []string{"0"}, [2]uint64{}},
		{world{ask: askOf("scc"), n: 5, both: true, edges: between(0, 1, 1, 2, 2, 0, 2, 3, 3, 4)}, []string{"0", "0", "0", "3", "4"}, [2]uint64{}},
		{world{ask: askOf("topo"), n: 4, both: true, edges: between(3, 1, 1, 0, 3, 0)}, []string{"2", "1", "0", "0"}, [2]uint64{}},
		{world{ask: askOf("topo"), n: 4, both: true, edges: between(1, 1, 1, 2, 0, 3)}, []string{"0", "-", "-", "1"}, [2]uint64{2, 0}},
		{world{ask: askOf("twocolour"), n: 5, both: true, edges: between(3, 1, 1, 0, 3, 0, 4, 2)}, []string{"-", "-", "0", "-", "1"}, [2]uint64{3, 0}},
	} {
		if c.w.kind == none {
			c.w.kind = api.EPlain
		}
		m, o := done(t, c.w, c.w.job())
		rows, e := rowsOf(t, m, c.w.job())
		if e != api.OK || !slices.Equal(rows, c.rows) || o.Tells != c.tells {
			t.Errorf("P19.6: %+v: %d, %q, %v; want %q, %v", c.w, e, rows, o.Tells, c.rows, c.tells)
		}
		if v, e := m.Audit(c.w.job()); e != api.OK || v != (api.Verdict{Right: true}) {
			t.Errorf("P19.7: %+v: %d, %+v", c.w, e, v)
		}
		if want := (told{c.rows, c.tells}); !slices.Equal(c.w.model(t).rows, want.rows) || c.w.model(t).tells != want.tells {
			t.Errorf("the model itself: %+v: %+v", c.w, c.w.model(t))
		}
	}
}

// P19.4, P19.6, P19.7: the code number is made of the kernel and its fields, as they stand or as is said for missing ones; a job with another one is refused.
func TestCodeNumbers(t *testing.T) {
	program := lines("program p;", "param k int;", "param x real;", "state a int;", "on turn { done; }")
	for _, c := range []struct {
		ask    ask
		text   string
		others []ask // with other numbers
		same   []ask
	}{
		{askOf("bfs"), "bfs\nsource=0", []ask{askOf("bfs", "source", "1"), askOf("reach")}, []ask{askOf("bfs", "source", "0"), askOf("bfs", "Source", `"0" # none`)}},
		{askOf("reach", "sources", "1 0"), "reach\nsources=1 0", []ask{askOf("reach"), askOf("reach", "sources", "0 1"), askOf("bfs")}, nil},
		{askOf("wcc"), "wcc", []ask{askOf("scc"), askOf("kcore")}, nil},
		{askOf("sssp", "source", "2"), "sssp\nsource=2", []ask{askOf("sssp"), askOf("bfs", "source", "2")}, nil},
		{askOf("mis"), "mis\nseed=0", []ask{askOf("mis", "seed", "5")}, []ask{askOf("mis", "seed", "0")}},
		{askOf("colour", "seed", "7"), "colour\nseed=7", []ask{askOf("colour"), askOf("mis", "seed", "7")}, nil},
		{askOf("kcore"), "kcore", []ask{askOf("wcc")}, nil},
		{askOf("pagerank"), "pagerank\ndamp=0.85\nrounds=20", []ask{askOf("pagerank", "damp", "0.850"), askOf("pagerank", "rounds", "19")}, []ask{askOf("pagerank", "rounds", "20", "damp", "0.85")}},
		{askOf("pagerank", "rounds", "3", "damp", ".5"), "pagerank\ndamp=.5\nrounds=3", []ask{askOf("pagerank", "rounds", "3", "damp", "0.5")}, nil},
		{askOf("spmv"), "spmv\nseed=0", []ask{askOf("spmv", "seed", "1")}, nil},
		{askOf("conductance"), "conductance\nseed=0", []ask{askOf("conductance", "seed", "1")}, nil},
		{askOf("anf"), "anf\nrounds=10\nseed=0", []ask{askOf("anf", "rounds", "1"), askOf("anf", "seed", "1")}, []ask{askOf("anf", "seed", "0", "rounds", "10")}},
		{askOf("scc"), "scc", []ask{askOf("topo")}, nil},
		{askOf("topo"), "topo", []ask{askOf("twocolour")}, nil},
		{askOf("twocolour"), "twocolour", []ask{askOf("topo")}, nil},
		{askOf("code", "program", "p", "arg.x", "1.5", "arg.k", "3"), "code\nprogram=p\nfuel=100000\n" + program + "\narg.x=1.5\narg.k=3",
			[]ask{askOf("code", "program", "p", "arg.k", "3", "arg.x", "1.5"), askOf("code", "program", "p", "arg.x", "1.50", "arg.k", "3"), askOf("code", "program", "p", "arg.x", "1.5", "arg.k", "3", "fuel", "99999"), askOf("code", "program", "q", "arg.x", "1.5", "arg.k", "3")},
			[]ask{askOf("code", "fuel", "100000", "ARG.X", "1.5", "arg.K", "3", "program", "p")}},
	} {
		w := world{ask: c.ask, n: 4, kind: api.EPlain, both: true, edges: between(0, 1, 1, 2, 3, 1)}
		m := open(t, 1)
		must(t, "P19.8", m.Teach("p", program))
		must(t, "P19.8", m.Teach("q", program))
		_, e := w.load(t, m)
		must(t, "P19.3", e)
		_, e = m.Run(w.job())
		must(t, "P19.4", e)
		mark, e := wheel.Info(m.Disk(0), "r")
		if e != api.OK || mark.Code != crc32.ChecksumIEEE([]byte(c.text)) {
			t.Errorf("P19.4: %+v: %d, %08x is not the number of %q", c.ask, e, mark.Code, c.text)
		}
		for _, other := range c.others {
			_, rows := m.Rows(other.job())
			_, audit := m.Audit(other.job())
			_, resume := m.Resume(other.job())
			if c.ask.kernel == "code" {
				audit = api.ErrOther // code has none
			}
			if rows != api.ErrOther || audit != api.ErrOther || resume != api.ErrOther {
				t.Errorf("P19.6: %+v in the place of %+v: Rows %d, Audit %d, Resume %d", other, c.ask, rows, audit, resume)
			}
		}
		for _, same := range append(c.same, c.ask) {
			if rows, e := rowsOf(t, m, same.job("batch = 16", "cap = 1", "fan = 2", "workers = 3", "every = 9")); e != api.OK || len(rows) != 4 {
				t.Errorf("P19.6: %+v in the place of %+v: %d", same, c.ask, e)
			}
		}
	}
}

// P19.8, P19.4: a program that is taught anew is another one: its runs are others', and it is the new one that is run.
func TestTaughtAnew(t *testing.T) {
	w := world{ask: askOf("code", "program", "p"), n: 3, kind: api.EPlain}
	m := open(t, 1)
	_, e := w.load(t, m)
	must(t, "P19.3", e)
	must(t, "P19.8", m.Teach("p", lines("program p;", "state x int;", "on start { x = vertex * vertex; }", "on turn { done; }")))
	_, e = m.Run(w.job())
	must(t, "P19.4", e)
	if e := m.Teach("p", "program"); e != api.ErrGrammar {
		t.Errorf("P19.8: %d", e)
	}
	squares := []string{"0000000000000000", "0000000000000001", "0000000000000004"}
	if rows, e := rowsOf(t, m, w.job()); e != api.OK || !slices.Equal(rows, squares) {
		t.Errorf("P19.8: behind a Teach that was refused: %d, %q", e, rows)
	}
	must(t, "P19.9", m.Restart())
	if rows, e := rowsOf(t, m, w.job()); e != api.OK || !slices.Equal(rows, squares) {
		t.Errorf("P19.8: behind a Restart: %d, %q", e, rows)
	}
	must(t, "P19.8", m.Teach("p", lines("program p;", "state x int;", "on start { x = -vertex; }", "on turn { done; }")))
	if _, e := m.Rows(w.job()); e != api.ErrOther {
		t.Errorf("P19.8: a run of the old one: %d", e)
	}
	must(t, "P19.8", m.Wipe("r"))
	_, e = m.Run(w.job())
	must(t, "P19.4", e)
	if rows, e := rowsOf(t, m, w.job()); e != api.OK || !slices.Equal(rows, []string{"0000000000000000", "ffffffffffffffff", "fffffffffffffffe"}) {
		t.Errorf("P19.8: the new one: %d, %q", e, rows)
	}
}

// P19.8: the errors of Teach in their order, and how many may be taught.
func TestTeach(t *testing.T) {
	const text = "program p;\nstate x int;\n"
	m := open(t, 1)
	for i := range api.MaxTaught {
		must(t, "P19.8", m.Teach("p"+number(i), text))
	}
	for i, c := range []struct {
		name, text string
		want       api.Errno
	}{
		{"", "?", api.ErrArg},
		{"P", "?", api.ErrArg},
		{"p-1", text, api.ErrArg},
		{"p.1", text, api.ErrArg},
		{"é", text, api.ErrArg},
		{"a\xff", text, api.ErrArg},
		{strings.Repeat("p", api.MaxRunName+1), "?", api.ErrArg},
		{"q", "?", api.ErrLong},
		{strings.Repeat("p", api.MaxRunName), text, api.ErrLong},
		{"p0", "?", api.ErrGlyph},
		{"p0", "program", api.ErrGrammar},
		{"p0", text + strings.Repeat(" ", api.MaxLore), api.ErrLong},
		{"p63", text, api.OK},
		{"p0", "program q;", api.OK}, // it is not checked
	} {
		if e := m.Teach(c.name, c.text); e != c.want {
			t.Errorf("P19.8: case %d, %q: %d, want %d", i, c.name, e, c.want)
		}
	}
	must(t, "P19.8", open(t, 1).Teach("_0az", text))
}

// P19.4: what arguments stand for, of each kind, and at their ends; a row has all words that are kept.
func TestArguments(t *testing.T) {
	m := open(t, 1)
	must(t, "P19.8", m.Teach("p", lines("program p;", "param k int;", "param x real;", "param f bool;",
		"state a int;", "state b real;", "state c bool;", "state d int;", "agg s int;", "agg u int;",
		"on start { a = k; b = x; c = f; d = vertex; }", "on fold { s = s + d; u = k; }", "on turn { done; }")))
	w := world{n: 2, kind: api.EPlain}
	_, e := w.load(t, m)
	must(t, "P19.3", e)
	for _, c := range []struct {
		k, x, f string
		words   string
		tells   [2]uint64
	}{
		{"7", "1.5", "true", "0000000000000007 000000003fc00000 0000000000000001", [2]uint64{1, 7}},
		{"-9223372036854775808", "-0x1p-149", "false", "8000000000000000 0000000080000001 0000000000000000", [2]uint64{1, 1 << 63}},
		{"9223372036854775807", "inf", "true", "7fffffffffffffff 000000007f800000 0000000000000001", [2]uint64{1, 1<<63 - 1}},
		{"-1", "-0", "false", "ffffffffffffffff 0000000080000000 0000000000000000", [2]uint64{1, 1<<64 - 1}},
	} {
		a := askOf("code", "program", "p", "arg.k", c.k, "arg.x", c.x, "arg.f", c.f)
		o, e := m.Run(a.job())
		must(t, "P19.4", e)
		rows, e := rowsOf(t, m, a.job())
		if want := []string{c.words + " 0000000000000000", c.words + " 0000000000000001"}; e != api.OK || !slices.Equal(rows, want) || o.Tells != c.tells {
			t.Errorf("P19.4: %+v: %d, %q, %v", c, e, rows, o.Tells)
		}
		must(t, "P19.8", m.Wipe("r"))
	}
}

// P19.4: fuel is what a handler may use.
func TestFuel(t *testing.T) {
	m := open(t, 1)
	must(t, "P19.8", m.Teach("p", lines("program p;", "state x int;", "on start { while x < 100 { x = x + 1; } }", "on turn { done; }")))
	_, e := world{n: 2, kind: api.EPlain}.load(t, m)
	must(t, "P19.3", e)
	if _, e := m.Run(askOf("code", "program", "p", "fuel", "99").job()); e != api.ErrFuel {
		t.Errorf("P19.4: %d", e)
	}
	_, e = m.Run(askOf("code", "program", "p", "fuel", "9999").job())
	must(t, "P19.4", e)
}
