package roster_test

import (
	"slices"
	"strings"
	"testing"

	"sluice/api"
	"sluice/roster"
)

// usual is what stands for the fields that are missing.
func usual() api.GraphConf {
	return api.GraphConf{Name: "g", Format: api.FmtBinary, Kind: api.EPlain, Vertices: -1, Edges: -1, Parts: 1, Batch: 256, Fan: 16, Workers: 1, Budget: 1048576}
}

// graphWrong wants nothing, and the name of the field.
func graphWrong(t *testing.T, want string, ss ...api.Section) {
	t.Helper()
	if c, err, at := roster.Graph(ss); c != (api.GraphConf{}) || err != api.ErrField || at != want {
		t.Errorf("Graph(%v): %v, %d, %q; not %q", ss, c, err, at, want)
	}
}

// graphRight wants this.
func graphRight(t *testing.T, want api.GraphConf, ss ...api.Section) {
	t.Helper()
	if c, err, at := roster.Graph(ss); c != want || err != api.OK || at != "" {
		t.Errorf("Graph(%v): %v, %d, %q; not %v", ss, c, err, at, want)
	}
}

// P7.9: fields that are missing, and all of them.
func TestGraph(t *testing.T) {
	graphRight(t, usual(), sec("graph", "name", "g"))
	graphRight(t, usual(), sec("other", "name", "G", "zz", "1"), sec("graph", "name", "g"), sec("graph", "name", "h"))
	all := sec("graph", "both", "Yes", "name", "g_1", "format", "MATRIX", "type", "3", "vertices", "2147483647", "edges", "0", "parts", "512", "batch", "65536", "fan", "256", "workers", "16", "budget", "0")
	graphRight(t, api.GraphConf{Name: "g_1", Format: api.FmtMatrix, Kind: api.EReal, Vertices: 2147483647, Edges: 0, Parts: 512, Batch: 65536, Fan: 256, Workers: 16, Budget: 0, Both: true}, all)
	slices.Reverse(all.Entries)
	graphRight(t, api.GraphConf{Name: "g_1", Format: api.FmtMatrix, Kind: api.EReal, Vertices: 2147483647, Edges: 0, Parts: 512, Batch: 65536, Fan: 256, Workers: 16, Budget: 0, Both: true}, all)
	graphRight(t, usual(), read(t, "[Graph]\nNAME = g\n")...)
	graphRight(t, usual(), sec("GRAPH", "Name", "g"))
	graphWrong(t, "graph")
	graphWrong(t, "graph", sec("graphs", "name", "g"), sec("job", "name", "g"), sec("graph.1", "name", "g"))
	graphWrong(t, "name", sec("graph"))
	graphWrong(t, "name", sec("graph"), sec("graph", "name", "g"))
}

// P7.9: each field, what may stand there and what not.
func TestFieldsOfGraph(t *testing.T) {
	rows := []struct {
		field     string
		right     map[string]func(*api.GraphConf)
		wrong     []string
		wholeFrom string // such are wrong for all whole numbers
	}{
		{"name", map[string]func(*api.GraphConf){
			"a":                func(c *api.GraphConf) { c.Name = "a" },
			"_":                func(c *api.GraphConf) { c.Name = "_" },
			"0":                func(c *api.GraphConf) { c.Name = "0" },
			"9z_a0":            func(c *api.GraphConf) { c.Name = "9z_a0" },
			"abcdefghijklmnop": func(c *api.GraphConf) { c.Name = "abcdefghijklmnop" },
		}, []string{"", "G", "aB", "a b", " a", "a.b", "a-b", "é", "abcdefghijklmnopq", "a\n", "\xff", strings.Repeat("a", 1024), "a`", "{", "/", ":"}, ""},
		{"format", map[string]func(*api.GraphConf){
			"binary": func(c *api.GraphConf) { c.Format = api.FmtBinary },
			"snap":   func(c *api.GraphConf) { c.Format = api.FmtSnap },
			"Dimacs": func(c *api.GraphConf) { c.Format = api.FmtDimacs },
			"matriX": func(c *api.GraphConf) { c.Format = api.FmtMatrix },
		}, []string{"", "csv", "1", "snap ", "binar", "\u017fnap"}, ""},
		{"type", map[string]func(*api.GraphConf){
			"1": func(c *api.GraphConf) { c.Kind = api.EPlain },
			"2": func(c *api.GraphConf) { c.Kind = api.ECounted },
			"3": func(c *api.GraphConf) { c.Kind = api.EReal },
		}, []string{"0", "4", "plain"}, "1"},
		{"vertices", map[string]func(*api.GraphConf){
			"1":          func(c *api.GraphConf) { c.Vertices = 1 },
			"2147483647": func(c *api.GraphConf) { c.Vertices = 2147483647 },
		}, []string{"0", "2147483648", "4294967297"}, "7"},
		{"edges", map[string]func(*api.GraphConf){
			"0":             func(c *api.GraphConf) { c.Edges = 0 },
			"1099511627776": func(c *api.GraphConf) { c.Edges = 1 << 40 },
		}, []string{"1099511627777"}, "7"},
		{"parts", map[string]func(*api.GraphConf){
			"1":   func(c *api.GraphConf) { c.Parts = 1 },
			"512": func(c *api.GraphConf) { c.Parts = 512 },
		}, []string{"0", "513"}, "7"},
		{"batch", map[string]func(*api.GraphConf){
			"16":    func(c *api.GraphConf) { c.Batch = 16 },
			"65536": func(c *api.GraphConf) { c.Batch = 65536 },
		}, []string{"0", "15", "65537"}, "17"},
		{"fan", map[string]func(*api.GraphConf){
			"2":   func(c *api.GraphConf) { c.Fan = 2 },
			"256": func(c *api.GraphConf) { c.Fan = 256 },
		}, []string{"0", "1", "257"}, "7"},
		{"workers", map[string]func(*api.GraphConf){
			"1":  func(c *api.GraphConf) { c.Workers = 1 },
			"16": func(c *api.GraphConf) { c.Workers = 16 },
		}, []string{"0", "17"}, "7"},
		{"budget", map[string]func(*api.GraphConf){
			"0":             func(c *api.GraphConf) { c.Budget = 0 },
			"1099511627776": func(c *api.GraphConf) { c.Budget = 1 << 40 },
		}, []string{"1099511627777"}, "7"},
		{"both", map[string]func(*api.GraphConf){
			"yes": func(c *api.GraphConf) { c.Both = true },
			"YES": func(c *api.GraphConf) { c.Both = true },
			"no":  func(c *api.GraphConf) { c.Both = false },
			"No":  func(c *api.GraphConf) { c.Both = false },
		}, []string{"", "1", "true", "y", "yes no"}, ""},
	}
	for i, r := range rows {
		with := func(value string) []api.Section {
			if r.field == "name" {
				return list(sec("graph", "name", value))
			}
			return list(sec("graph", "name", "g", r.field, value))
		}
		for value, set := range r.right {
			want := usual()
			set(&want)
			graphRight(t, want, with(value)...)
		}
		if n := r.wholeFrom; n != "" {
			r.wrong = append(r.wrong, "", "-"+n, "0"+n, "+"+n, n+".0", " "+n, n+" ", "0x"+n, n+"e0", "9223372036854775808", "18446744073709551617", "x")
		}
		for _, value := range r.wrong {
			graphWrong(t, r.field, with(value)...)
		}
		// The first wrong field in the table's order, ahead of those that are none.
		all := sec("graph", "zz", "1")
		for j := len(rows) - 1; j >= i; j-- {
			all.Entries = append(all.Entries, api.Entry{Name: rows[j].field, Value: rows[j].wrong[0]})
		}
		if r.field != "name" {
			all.Entries = append(all.Entries, api.Entry{Name: "name", Value: "g"})
		}
		graphWrong(t, r.field, all)
	}
}

// P7.9, example 6: entries that are no fields.
func TestUnknownFieldsOfGraph(t *testing.T) {
	graphWrong(t, "type", sec("graph", "name", "g", "type", "4", "zz", "1"))
	graphWrong(t, "zz", sec("graph", "zz", "1", "name", "g", "aa", "2"))
	graphWrong(t, "aa", sec("graph", "name", "g", "aa", "2", "zz", "1"))
	graphWrong(t, "kind", sec("graph", "name", "g", "kind", "1"))
	graphWrong(t, "vertice", sec("graph", "name", "g", "vertice", "1"))
	graphWrong(t, "", sec("graph", "name", "g", "", "1"))
	graphWrong(t, "name", sec("graph", "zz", "1"))
}

// anyJob is a job's section, with more entries behind.
func anyJob(section string, more ...string) api.Section {
	return sec(section, append([]string{"name", "r", "graph", "g", "kernel", "bfs"}, more...)...)
}

func usualJob() api.Job {
	return api.Job{Name: "r", Graph: "g", Kernel: "bfs", Cap: 65536, Every: 0, Batch: 256, Fan: 16, Workers: 1}
}

func sameJob(a, b api.Job) bool {
	rest := slices.Equal(a.Rest, b.Rest)
	return rest && a.Name == b.Name && a.Graph == b.Graph && a.Kernel == b.Kernel && a.Cap == b.Cap && a.Every == b.Every && a.Batch == b.Batch && a.Fan == b.Fan && a.Workers == b.Workers
}

func jobsRight(t *testing.T, want []api.Job, ss ...api.Section) {
	t.Helper()
	if js, err, at := roster.Jobs(ss); !slices.EqualFunc(js, want, sameJob) || err != api.OK || at != "" {
		t.Errorf("Jobs(%v): %v, %d, %q; not %v", ss, js, err, at, want)
	}
}

func jobsWrong(t *testing.T, want string, ss ...api.Section) {
	t.Helper()
	if js, err, at := roster.Jobs(ss); len(js) != 0 || err != api.ErrField || at != want {
		t.Errorf("Jobs(%v): %v, %d, %q; not %q", ss, js, err, at, want)
	}
}

// P7.10, example 7.
func TestJobs(t *testing.T) {
	jobsRight(t, nil)
	jobsRight(t, nil, sec("graph"), sec("job."), sec("jobs"), sec("job-1"), sec("a.job"), sec("jo"), sec(""), sec("job_x"))
	source := usualJob()
	source.Rest = []api.Entry{{Name: "source", Value: "3"}}
	jobsRight(t, []api.Job{source}, anyJob("job.2", "source", "3"))
	jobsRight(t, []api.Job{source}, read(t, "[Job.2]\nName = r\ngraph = g\nkernel = bfs\nSource = 3")...)
	jobsRight(t, []api.Job{usualJob(), source, usualJob()}, anyJob("job.b"), sec("x"), anyJob("job.a", "source", "3"), anyJob("job"))
	jobsRight(t, []api.Job{usualJob()}, anyJob("job.."))
	jobsRight(t, []api.Job{usualJob()}, anyJob("JOB.x"))

	all := usualJob()
	all.Cap, all.Every, all.Batch, all.Fan, all.Workers = 1, 1048576, 16, 256, 16
	all.Rest = []api.Entry{{Name: "z", Value: "1"}, {Name: "damp", Value: "0.5"}, {Name: "a", Value: ""}}
	jobsRight(t, []api.Job{all}, sec("job", "z", "1", "workers", "16", "fan", "256", "batch", "16", "damp", "0.5", "every", "1048576", "cap", "1", "kernel", "bfs", "graph", "g", "name", "r", "a", ""))
	// Each section is read for itself, whatever its name.
	jobsRight(t, []api.Job{usualJob(), source}, anyJob("job"), anyJob("job", "source", "3"))
}

// P7.10: each field, what may stand there and what not.
func TestFieldsOfJobs(t *testing.T) {
	rows := []struct {
		field string
		right map[string]func(*api.Job)
		wrong []string
		must  bool
	}{
		{"name", map[string]func(*api.Job){"a_9": func(j *api.Job) { j.Name = "a_9" }, "abcdefghijklmnop": func(j *api.Job) { j.Name = "abcdefghijklmnop" }}, []string{"", "R", "a-b", "a.b", "abcdefghijklmnopq", "é"}, true},
		{"graph", map[string]func(*api.Job){"0": func(j *api.Job) { j.Graph = "0" }, "abcdefghijklmnop": func(j *api.Job) { j.Graph = "abcdefghijklmnop" }}, []string{"", "G", "a-b", "abcdefghijklmnopq"}, true},
		{"kernel", map[string]func(*api.Job){"_k9": func(j *api.Job) { j.Kernel = "_k9" }, strings.Repeat("k", 32): func(j *api.Job) { j.Kernel = strings.Repeat("k", 32) }}, []string{"", "BFS", "a-b", "a.b", "a b", strings.Repeat("k", 33)}, true},
		{"cap", map[string]func(*api.Job){"1": func(j *api.Job) { j.Cap = 1 }, "1048576": func(j *api.Job) { j.Cap = 1 << 20 }}, []string{"0", "1048577", "-1", "01", "", "x"}, false},
		{"every", map[string]func(*api.Job){"0": func(j *api.Job) { j.Every = 0 }, "1048576": func(j *api.Job) { j.Every = 1 << 20 }}, []string{"-1", "1048577", "-0", "00", "", "x"}, false},
		{"batch", map[string]func(*api.Job){"16": func(j *api.Job) { j.Batch = 16 }, "65536": func(j *api.Job) { j.Batch = 65536 }}, []string{"15", "65537", "016", "", "x"}, false},
		{"fan", map[string]func(*api.Job){"2": func(j *api.Job) { j.Fan = 2 }, "256": func(j *api.Job) { j.Fan = 256 }}, []string{"1", "257", "02", "", "x"}, false},
		{"workers", map[string]func(*api.Job){"1": func(j *api.Job) { j.Workers = 1 }, "16": func(j *api.Job) { j.Workers = 16 }}, []string{"0", "17", "+1", "", "x"}, false},
	}
	with := func(field, value string) api.Section {
		s := anyJob("job.1")
		at := slices.IndexFunc(s.Entries, func(e api.Entry) bool { return e.Name == field })
		if at < 0 {
			s.Entries = append(s.Entries, api.Entry{Name: field, Value: value})
		} else {
			s.Entries[at].Value = value
		}
		return s
	}
	for i, r := range rows {
		for value, set := range r.right {
			want := usualJob()
			set(&want)
			jobsRight(t, []api.Job{want}, with(r.field, value))
		}
		for _, value := range r.wrong {
			jobsWrong(t, "job.1."+r.field, with(r.field, value))
			jobsWrong(t, "job.1."+r.field, anyJob("job"), with(r.field, value), sec("job.2"))
		}
		if r.must {
			s := anyJob("job")
			s.Entries = slices.DeleteFunc(s.Entries, func(e api.Entry) bool { return e.Name == r.field })
			jobsWrong(t, "job."+r.field, s)
		}
		// The first wrong field in this order.
		var all api.Section
		all.Name = "job"
		for j := len(rows) - 1; j >= 0; j-- {
			value := rows[j].wrong[0]
			for v := range rows[j].right {
				if j < i {
					value = v
				}
			}
			all.Entries = append(all.Entries, api.Entry{Name: rows[j].field, Value: value})
		}
		jobsWrong(t, "job."+r.field, all)
	}
}

// P7.9, P7.10 with P0.1: nothing is changed, and nothing shared.
func TestConfigsApart(t *testing.T) {
	ss, whole := guarded(list(sec("graph", "name", "g"), anyJob("job.1", "a", "1", "b", "2"), anyJob("job.2", "c", "3", "d", "4")))
	if _, err, _ := roster.Graph(ss); err != api.OK {
		t.Errorf("Graph: %d", err)
	}
	js, err, _ := roster.Jobs(ss)
	if err != api.OK || len(js) != 2 {
		t.Fatalf("Jobs: %v, %d", js, err)
	}
	first := slices.Clone(js[1].Rest)
	for i := range js[0].Rest[:cap(js[0].Rest)] {
		js[0].Rest[:cap(js[0].Rest)][i] = api.Entry{Name: "spoilt"}
	}
	if !slices.Equal(js[1].Rest, first) {
		t.Error("two jobs share their rests")
	}
	for i := range js[1].Rest[:cap(js[1].Rest)] {
		js[1].Rest[:cap(js[1].Rest)][i] = api.Entry{Name: "spoilt"}
	}
	if !whole() {
		t.Error("what is handed in has changed")
	}
}
