package mill

import (
	"slices"
	"strings"

	"sluice/api"
	"sluice/grain"
	"sluice/roster"
	"sluice/wheel"
)

// job is one that was read.
type job struct {
	api.Job
	kernel
	values
	marks []string // what its code number is made of
}

// read reads a job (chapter 19, Jobs).
func (m *Mill) read(text string) (*job, api.Errno) {
	ss, err, _ := roster.Parse(text)
	if err != api.OK {
		return nil, err
	}
	if len(ss) != 1 || ss[0].Name != "job" {
		return nil, api.ErrField
	}
	jobs, err, _ := roster.Jobs(ss)
	if err != api.OK {
		return nil, err
	}
	k, known := kernels()[jobs[0].Kernel]
	if !known {
		return nil, api.ErrKernel
	}
	j := &job{Job: jobs[0], kernel: k, marks: []string{jobs[0].Kernel}}
	if err := j.fill(); err != api.OK {
		return nil, err
	}
	switch {
	case k.rest != nil:
		err = k.rest(m, j)
	case len(j.Rest) > 0:
		err = api.ErrField
	}
	if err != api.OK {
		return nil, err
	}
	return j, api.OK
}

// fill reads the kernel's fields. What is left in Rest behind it are entries that are none.
func (j *job) fill() api.Errno {
	for _, f := range j.fields {
		value := f.usual
		at := slices.IndexFunc(j.Rest, func(e api.Entry) bool { return e.Name == f.name })
		if at >= 0 {
			value = j.Rest[at].Value
			j.Rest = slices.Delete(j.Rest, at, at+1)
		}
		if err := f.take(&j.values, value); err != api.OK {
			return err
		}
		j.mark(f.name, value)
	}
	return api.OK
}

// mark notes what a field, or an argument, says: a job that says otherwise is another one.
func (j *job) mark(name, value string) { j.marks = append(j.marks, name+"="+value) }

// number tells the job's code number.
func (j *job) number() uint32 { return grain.CRC([]byte(strings.Join(j.marks, "\n"))) }

// task is a job that was fitted to its graph.
type task struct {
	*job
	graph   api.Graph
	program api.Program
}

// prepare reads a job and fits it to its graph.
func (m *Mill) prepare(text string) (*task, api.Errno) {
	if err := m.begin(); err != api.OK {
		return nil, err
	}
	j, err := m.read(text)
	if err != api.OK {
		return nil, err
	}
	g, err := wheel.Find(m.volume, j.Graph)
	switch {
	case err != api.OK:
		return nil, err
	case j.whole && g.Kind == api.EReal:
		return nil, api.ErrKernel
	case j.back && !g.Both:
		return nil, api.ErrBack
	}
	p, err := j.maker(j.values, g)
	if err != api.OK {
		return nil, err
	}
	return &task{j, g, p}, api.OK
}

// options tells what layer 12 is asked for.
func (t *task) options() api.Options {
	return api.Options{Run: t.Name, Batch: t.Batch, Fan: t.Fan, Workers: t.Workers, Cap: t.Cap, Every: t.Every}
}

// own tells where the task's run stands, if it is a run of this very job.
func (m *Mill) own(t *task) (api.RunMark, api.Errno) {
	mark, err := wheel.Info(m.volume, t.Name)
	switch {
	case err != api.OK:
		return api.RunMark{}, err
	case mark.Code != t.number():
		return api.RunMark{}, api.ErrOther
	}
	return mark, api.OK
}
