package roster

import (
	"slices"
	"strings"

	"sluice/api"
)

const (
	mostEdges = 1 << 40 // of a graph

	usualCap    = 65536
	usualBatch  = 256
	usualFan    = 16
	usualBudget = 1048576
)

// graphConf is a configuration as a sheet.
type graphConf api.GraphConf

func graphConfRows() []row[graphConf] {
	return []row[graphConf]{
		{"name", true, (*graphConf).name},
		{"format", false, (*graphConf).format},
		{"type", false, (*graphConf).kind},
		{"vertices", false, (*graphConf).vertices},
		{"edges", false, (*graphConf).edges},
		{"parts", false, (*graphConf).parts},
		{"batch", false, (*graphConf).batch},
		{"fan", false, (*graphConf).fan},
		{"workers", false, (*graphConf).workers},
		{"budget", false, (*graphConf).budget},
		{"both", false, (*graphConf).both},
	}
}

func (c *graphConf) name() cell { return title(&c.Name) }
func (c *graphConf) format() cell {
	return word(&c.Format, api.FmtBinary, "binary", "snap", "dimacs", "matrix")
}
func (c *graphConf) kind() cell     { return number(&c.Kind, int64(api.EPlain), int64(api.EReal)) }
func (c *graphConf) vertices() cell { return number(&c.Vertices, 1, api.MaxVertices) }
func (c *graphConf) edges() cell    { return number(&c.Edges, 0, mostEdges) }
func (c *graphConf) parts() cell    { return number(&c.Parts, 1, api.MaxParts) }
func (c *graphConf) batch() cell    { return batchCell(&c.Batch) }
func (c *graphConf) fan() cell      { return fanCell(&c.Fan) }
func (c *graphConf) workers() cell  { return workersCell(&c.Workers) }
func (c *graphConf) budget() cell   { return number(&c.Budget, 0, api.MaxBudget) }
func (c *graphConf) both() cell     { return yesOrNo(&c.Both) }

// What graphs and jobs say in the same way.

func batchCell(at *int) cell   { return number(at, api.MinBatch, api.MaxBatch) }
func fanCell(at *int) cell     { return number(at, 2, api.MaxFan) }
func workersCell(at *int) cell { return number(at, 1, api.MaxWorkers) }

// Graph reads what a configuration says of a graph; the field that is wrong (P7.9).
func Graph(ss []api.Section) (api.GraphConf, api.Errno, string) {
	at := slices.IndexFunc(ss, func(s api.Section) bool { return small(s.Name) == "graph" })
	if at < 0 {
		return api.GraphConf{}, api.ErrField, "graph"
	}
	c := graphConf{
		Format: api.FmtBinary, Kind: api.EPlain, Vertices: -1, Edges: -1, Parts: 1,
		Batch: usualBatch, Fan: usualFan, Workers: 1, Budget: usualBudget,
	}
	rows := graphConfRows()
	if wrong, ok := fill(&c, ss[at], rows); !ok {
		return api.GraphConf{}, api.ErrField, wrong
	}
	if rest := others(ss[at], rows); len(rest) > 0 {
		return api.GraphConf{}, api.ErrField, rest[0].Name
	}
	return api.GraphConf(c), api.OK, ""
}

// job is a job as a sheet.
type job api.Job

func jobRows() []row[job] {
	return []row[job]{
		{"name", true, (*job).name},
		{"graph", true, (*job).graph},
		{"kernel", true, (*job).kernel},
		{"cap", false, (*job).cap},
		{"every", false, (*job).every},
		{"batch", false, (*job).batch},
		{"fan", false, (*job).fan},
		{"workers", false, (*job).workers},
	}
}

func (j *job) name() cell    { return title(&j.Name) }
func (j *job) graph() cell   { return title(&j.Graph) }
func (j *job) kernel() cell  { return label(&j.Kernel, api.MaxKeyName, "") }
func (j *job) cap() cell     { return number(&j.Cap, 1, api.MaxCap) }
func (j *job) every() cell   { return number(&j.Every, 0, api.MaxCap) }
func (j *job) batch() cell   { return batchCell(&j.Batch) }
func (j *job) fan() cell     { return fanCell(&j.Fan) }
func (j *job) workers() cell { return workersCell(&j.Workers) }

// Jobs reads the jobs (P7.10).
func Jobs(ss []api.Section) ([]api.Job, api.Errno, string) {
	var jobs []api.Job
	rows := jobRows()
	for _, s := range ss {
		if !isJob(s.Name) {
			continue
		}
		j := job{Cap: usualCap, Batch: usualBatch, Fan: usualFan, Workers: 1}
		if wrong, ok := fill(&j, s, rows); !ok {
			return nil, api.ErrField, s.Name + "." + wrong
		}
		j.Rest = others(s, rows)
		jobs = append(jobs, api.Job(j))
	}
	return jobs, api.OK, ""
}

// isJob tells whether a section of that name is a job: `job`, or `job.` and something more.
func isJob(name string) bool {
	more, dotted := strings.CutPrefix(small(name), "job.")
	return small(name) == "job" || dotted && more != ""
}
