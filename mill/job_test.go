package mill_test

import (
	"strings"
	"testing"

	"sluice/api"
	"sluice/mill"
)

// threeGraphs has a plain graph g without back edges, one with, b, and one whose weights are reals, w.
func threeGraphs(t testing.TB, m *mill.Mill) {
	t.Helper()
	for _, c := range []struct{ config, input string }{
		{lines("[graph]", "name = g", "vertices = 5", "format = snap"), "0 1\n0 2\n2 1\n1 3\n"},
		{lines("[graph]", "name = b", "vertices = 5", "format = snap", "both = yes"), "0 1\n0 2\n2 1\n1 3\n"},
		{lines("[graph]", "name = w", "vertices = 5", "format = snap", "type = 3"), "0 1 0.5\n"},
	} {
		_, e := m.Load(c.config, []byte(c.input))
		must(t, "P19.3", e)
	}
}

// refused asks that each of the four calls that are given a job answers an error, and all else is zero.
func refused(t *testing.T, m *mill.Mill, what, job string, want api.Errno) {
	t.Helper()
	o, run := m.Run(job)
	r, resume := m.Resume(job)
	table, rows := m.Rows(job)
	v, audit := m.Audit(job)
	if o != (api.Outcome{}) || r != o || table != nil || v != (api.Verdict{}) {
		t.Errorf("%s: with an error all else is zero: %+v, %+v, %v, %+v", what, o, r, table, v)
	}
	if run != want || resume != want || rows != want || audit != want {
		t.Errorf("%s: Run %d, Resume %d, Rows %d, Audit %d, want %d", what, run, resume, rows, audit, want)
	}
	still(t, m, what)
}

// P19.4 to P19.7: the errors of a job that is read and fitted, in their order: each case has two faults or more, of which the first is told. There is no run, and none is begun.
func TestJobsRefused(t *testing.T) {
	m := open(t, 1)
	threeGraphs(t, m)
	must(t, "P19.8", m.Teach("bad", "program bad;\non turn { done; }\n")) // it has no state
	must(t, "P19.8", m.Teach("p", lines("program p;", "param k int;", "param x real;", "param f bool;", "state a int;", "on turn { done; }")))
	before := names(t, m)
	said := func(l ...string) string { return lines(append([]string{"[job]"}, l...)...) }
	for _, c := range []struct {
		what, job string
		want      api.Errno
	}{
		{"text", "[job\n[graph]\n", api.ErrHead},
		{"text", "kernel = dfs", api.ErrOrphan},
		{"text, twice", "[job]\n[job]\n", api.ErrAgain},
		{"text that is too long", strings.Repeat("#", api.MaxRoster+1), api.ErrLong},
		{"no section", "", api.ErrField},
		{"another section", "[graph]\nname = g\n", api.ErrField},
		{"a job with a number", "[job.1]\nname = r\ngraph = g\nkernel = dfs\n", api.ErrField},
		{"two sections", askOf("dfs").job("[x]"), api.ErrField},
		{"two sections", "[x]\n" + askOf("dfs").job(), api.ErrField},
		{"two jobs", askOf("dfs").job("[job.1]", "name = s", "graph = g", "kernel = bfs"), api.ErrField},
		{"no name", said("graph = g", "kernel = dfs"), api.ErrField},
		{"no graph", said("name = r", "kernel = dfs"), api.ErrField},
		{"no kernel", said("name = r", "graph = g", "zz = 1"), api.ErrField},
		{"a name that is none", askOf("dfs").jobOf("R", "g"), api.ErrField},
		{"cap", askOf("dfs").job("cap = 0"), api.ErrField},
		{"every", askOf("dfs").job("every = 1048577"), api.ErrField},
		{"batch", askOf("dfs").job("batch = 15"), api.ErrField},
		{"fan", askOf("dfs").job("fan = 257"), api.ErrField},
		{"workers", askOf("dfs").job("workers = 17"), api.ErrField},
		{"kernel", askOf("dfs").job("source = x"), api.ErrKernel},
		{"kernel", askOf("bf").jobOf("r", "none"), api.ErrKernel},
		{"own field", askOf("bfs", "source", "x").jobOf("r", "none"), api.ErrField},
		{"no field", askOf("bfs", "sources", "1").jobOf("r", "none"), api.ErrField},
		{"no field", askOf("wcc", "seed", "1").job(), api.ErrField},
		{"an argument of what is no code", askOf("bfs", "arg.k", "1").jobOf("r", "none"), api.ErrField},
		{"no program", askOf("code").jobOf("r", "none"), api.ErrField},
		{"a program that was not taught", askOf("code", "program", "q").jobOf("r", "none"), api.ErrField},
		{"fuel, ahead of the text", askOf("code", "program", "bad", "fuel", "0").jobOf("r", "none"), api.ErrField},
		{"the text, ahead of what is no field", askOf("code", "program", "bad", "zz", "1").jobOf("r", "none"), api.ErrUnknown},
		{"the text, ahead of the arguments", askOf("code", "program", "bad", "arg.k", "x").jobOf("r", "none"), api.ErrUnknown},
		{"an argument that is no param", askOf("code", "program", "p", "arg.l", "1").jobOf("r", "none"), api.ErrField},
		{"an argument without a name", askOf("code", "program", "p", "arg.", "1").jobOf("r", "none"), api.ErrField},
		{"a param's name alone is no field", askOf("code", "program", "p", "k", "1").jobOf("r", "none"), api.ErrField},
		{"a state is no param", askOf("code", "program", "p", "arg.a", "1").jobOf("r", "none"), api.ErrField},
		{"no field of code", askOf("code", "program", "p", "arg.k", "1", "source", "1").jobOf("r", "none"), api.ErrField},
		{"graph", askOf("sssp", "source", "99").jobOf("r", "none"), api.ErrGraph},
		{"graph, ahead of the arguments that are missing", askOf("code", "program", "p").jobOf("r", "none"), api.ErrGraph},
		{"kind", askOf("sssp", "source", "99").jobOf("r", "w"), api.ErrKernel},
		{"back edges", askOf("wcc").job(), api.ErrBack},
		{"maker", askOf("bfs", "source", "5").job(), api.ErrSource},
		{"maker", askOf("bfs", "source", "2147483647").job(), api.ErrSource},
		{"maker", askOf("reach", "sources", "0 5").job(), api.ErrSource},
		{"maker", askOf("reach", "sources", strings.Repeat("0 ", api.MaxSources)+"0").job(), api.ErrSource},
		{"maker", askOf("sssp", "source", "5").job(), api.ErrSource},
		{"maker", askOf("pagerank", "damp", "1").job(), api.ErrDamp},
		{"maker", askOf("pagerank", "damp", "nan:1").job(), api.ErrDamp},
		{"arguments that are missing", askOf("code", "program", "p", "arg.k", "1", "arg.f", "true").job(), api.ErrParam},
		{"an argument that is no number", askOf("code", "program", "p", "arg.k", "1", "arg.f", "true", "arg.x", "nan:400000").job(), api.ErrParam},
	} {
		refused(t, m, "a job: "+c.what, c.job, c.want)
	}
	for _, kernel := range builtIn {
		if isBoth(kernel) {
			refused(t, m, "a job: "+kernel, askOf(kernel).job(), api.ErrBack)
		}
	}
	if after := names(t, m); len(after) != len(before) {
		t.Errorf("P19.4: %v are left of %v", after, before)
	}
	job := askOf("bfs").job()
	_, resume := m.Resume(job)
	_, rows := m.Rows(job)
	_, audit := m.Audit(job)
	_, code := m.Audit(askOf("code", "program", "p", "arg.k", "1", "arg.f", "true", "arg.x", "1").job())
	if resume != api.ErrRun || rows != api.ErrRun || audit != api.ErrRun || code != api.ErrKernel {
		t.Errorf("P19.5 to P19.7: without a run: %d, %d, %d; code: %d", resume, rows, audit, code)
	}
}

// P19.4: the bounds of the kernels' fields; what is within them gets as far as the graph, which there is not.
func TestFieldsOfKernels(t *testing.T) {
	m := open(t, 1)
	must(t, "P19.8", m.Teach("p", lines("program p;", "param k int;", "param x real;", "param f bool;", "state a int;")))
	const most = "9223372036854775807"
	vertices := map[bool][]string{
		true:  {"0", "7", "2147483647"},
		false: {"-1", "2147483648", "01", "+1", "1 ", "x", "1.0", "-0", "99999999999999999999"},
	}
	seeds := map[bool][]string{
		true:  {"0", "4294967296", most},
		false: {"-1", "9223372036854775808", "00", "0x1", ""},
	}
	reals := map[bool][]string{
		true:  {"0.5", ".5", "1e-400", "inf", "0x1.8p+0", "nan:1", "-7"},
		false: {"", "half", "1e401", "0x1.80p+0", "0,5"},
	}
	for _, c := range []struct {
		kernel, field string
		values        map[bool][]string
	}{
		{"bfs", "source", vertices},
		{"sssp", "source", vertices},
		{"reach", "sources", vertices},
		{"reach", "sources", map[bool][]string{true: {"1 2", "0 0 0", "2147483647 0"}, false: {"1  2", " 1", "1 2 ", "1,2", "1\t2", "1 -2", ""}}},
		{"mis", "seed", seeds},
		{"colour", "seed", seeds},
		{"spmv", "seed", seeds},
		{"conductance", "seed", seeds},
		{"anf", "seed", seeds},
		{"anf", "rounds", map[bool][]string{true: {"1", "65536"}, false: {"0", "65537", "-1", "1e3"}}},
		{"pagerank", "rounds", map[bool][]string{true: {"1", "65536"}, false: {"0", "65537", ""}}},
		{"pagerank", "damp", reals},
		{"code", "fuel", map[bool][]string{true: {"1", "1048576"}, false: {"0", "1048577", "x"}}},
		{"code", "arg.k", map[bool][]string{true: {"0", most, "-9223372036854775808"}, false: {"9223372036854775808", "-9223372036854775809", "1.0", "007", ""}}},
		{"code", "arg.x", reals},
		{"code", "arg.f", map[bool][]string{true: {"true", "false"}, false: {"True", "1", "yes", ""}}},
	} {
		for right, values := range c.values {
			for _, value := range values {
				a := askOf(c.kernel, c.field, `"`+strings.ReplaceAll(value, "\t", `\t`)+`"`)
				if c.kernel == "code" {
					a.fields = append(a.fields, "program", "p")
				}
				want := api.ErrField
				if right {
					want = api.ErrGraph
				}
				if _, e := m.Run(a.job()); e != want {
					t.Errorf("P19.4: %s, %s = %q: %d, want %d", c.kernel, c.field, value, e, want)
				}
			}
		}
	}
}

// P19.4, P19.5: behind a job that is fitted come layer 12's errors.
func TestRunsRefused(t *testing.T) {
	m := openAs(t, api.Setup{Disks: 1, Quota: roomy, Budget: 60000})
	threeGraphs(t, m)
	job := askOf("wcc").jobOf("r", "b", "every = 1")
	_, e := m.Run(job)
	must(t, "P19.4", e)
	if o, e := m.Run(job); e != api.ErrThere || o != (api.Outcome{}) {
		t.Errorf("P19.4: a run that is there: %d", e)
	}
	if _, e := m.Resume(askOf("scc").jobOf("r", "b")); e != api.ErrOther {
		t.Errorf("P19.5: another job: %d", e)
	}
	if _, e := m.Resume(askOf("wcc").jobOf("s", "b")); e != api.ErrRun {
		t.Errorf("P19.5: no run: %d", e)
	}
	if _, e := m.Run(askOf("wcc").jobOf("s", "b", "cap = 1")); e != api.ErrCap || mill.Class(e) != api.Trapped {
		t.Errorf("P19.4: the cap: %d", e)
	}
	must(t, "P19.8", m.Teach("trap", "program trap;\nstate x int;\non apply { x = 1 / x; }\n"))
	must(t, "P19.8", m.Teach("rear", "program rear;\nstate x int;\nboth;\n"))
	if _, e := m.Run(askOf("code", "program", "trap").jobOf("s", "b")); e != api.ErrTrapZero {
		t.Errorf("P19.4: a trap: %d", e)
	}
	if _, e := m.Run(askOf("code", "program", "rear").jobOf("s", "g")); e != api.ErrBack {
		t.Errorf("P19.4: code that goes backwards: %d", e)
	}
	if _, e := m.Run(askOf("bfs").jobOf("s", "b", "batch = 65536")); e != api.ErrSpent {
		t.Errorf("P19.4: a purse that is too small: %d", e)
	}
	still(t, m, "P19.4")
}

// P19.4, P19.5: the Outcome: statistics, tells, and both in a line; Resume tells the same of a run that is done, and of one that goes on.
func TestOutcomes(t *testing.T) {
	m := open(t, 1)
	threeGraphs(t, m)
	want := api.Outcome{Stats: api.Stats{Rounds: 3, Edges: 12, Updates: 4, Changed: 3}, Tells: [2]uint64{4, 2}, Text: "bfs rounds 3 edges 12 updates 4 changed 3 tells 4 2"}
	o, e := m.Run(askOf("bfs").job())
	if e != api.OK || o != want {
		t.Errorf("P19.4: %d, %+v", e, o)
	}
	if o, e := m.Resume(askOf("bfs").job("batch = 16")); e != api.OK || o != want {
		t.Errorf("P19.5: %d, %+v", e, o)
	}
	for round := 1; round < 3; round++ {
		if _, e := m.Resume(askOf("bfs").jobOf("s", "g", "every = 1", "cap = "+number(round))); e == api.ErrRun {
			_, e = m.Run(askOf("bfs").jobOf("s", "g", "every = 1", "cap = 1"))
			if e != api.ErrCap {
				t.Errorf("P19.4: %d", e)
			}
		}
	}
	if o, e := m.Resume(askOf("bfs").jobOf("s", "g")); e != api.OK || o != want {
		t.Errorf("P19.5: gone on with: %d, %+v", e, o)
	}
}

// P19.4: what is told of the whole is read behind the run: if that fails, the run is done all the same.
func TestInfoBehindTheRun(t *testing.T) {
	calm := open(t, 1)
	threeGraphs(t, calm)
	before := calm.Disk(0).Ops()
	_, e := calm.Run(askOf("bfs").job())
	must(t, "P19.4", e)
	seen := 0
	for at := range calm.Disk(0).Ops() - before {
		m := open(t, 1)
		threeGraphs(t, m)
		d := m.Disk(0)
		must(t, "Plan", d.Plan(api.Fault{Op: d.Ops() + 1 + at, Kind: api.FaultRead}))
		o, e := m.Run(askOf("bfs").job())
		if e == api.OK { // no read
			continue
		}
		if e != api.ErrIO || o != (api.Outcome{}) {
			t.Fatalf("P19.4: a read that fails at %d: %d, %+v", at, e, o)
		}
		if _, e := m.Run(askOf("bfs").job()); e == api.ErrThere {
			seen++
			if o, e := m.Resume(askOf("bfs").job()); e != api.OK || o.Tells != [2]uint64{4, 2} {
				t.Errorf("P19.4: Resume behind it: %d, %+v", e, o)
			}
		}
	}
	if seen == 0 {
		t.Error("P19.4: no read behind the run?")
	}
}
