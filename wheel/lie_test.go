package wheel_test

import (
	"hash/crc32"
	"testing"

	"sluice/api"
	"sluice/platter"
	"sluice/reel"
	"sluice/roster"
)

// lie writes the graph's manifest anew, with another content and a right seal.
func lie(t *testing.T, d api.Volume, change func(m *api.GraphMark)) {
	t.Helper()
	m, e := roster.ToGraph(text(t, d, "g.graph"))
	if e != api.OK {
		t.Fatal(e)
	}
	change(&m)
	s, e := roster.FromGraph(m)
	if e != api.OK {
		t.Fatal(e)
	}
	put(t, d, "g.graph", s)
}

// lieRun writes the run's manifest anew, with another content and a right seal.
func lieRun(t *testing.T, d api.Volume, change func(m *api.RunMark)) {
	t.Helper()
	m, e := roster.ToRun(text(t, d, "r.run"))
	if e != api.OK {
		t.Fatal(e)
	}
	change(&m)
	s, e := roster.FromRun(m)
	if e != api.OK {
		t.Fatal(e)
	}
	put(t, d, "r.run", s)
}

// strange has the first edge file hold these edges, and the manifest name it so.
func strange(t *testing.T, d *platter.Disk, g api.Graph, edges []api.Edge) {
	t.Helper()
	f, _ := reel.EdgeForm(g.Kind)
	d.Remove("g-e-0000")
	w, e := reel.Create(d, "g-e-0000", api.Title{Family: api.FamEdges, Width: f.Width(), Tag: uint64(crc32.ChecksumIEEE([]byte(g.Name))) << 32}, f, make([]byte, 100))
	if e != api.OK || w.Put(edges...) != api.OK || w.Close() != api.OK {
		t.Fatal(e)
	}
	lie(t, d, func(m *api.GraphMark) { m.Files[0].Records, m.Files[0].Sum = w.Count(), w.Sum() })
}

// flip turns a bit of a file, whoever stands for the disk.
func flip(t *testing.T, v api.Volume, name string, bit int64) {
	t.Helper()
	if s, ok := v.(*spy); ok {
		v = s.Volume
	}
	if e := v.(*platter.Disk).Flip(name, bit); e != api.OK {
		t.Fatal(e)
	}
}

// exchange lays an update file down anew, with its title and other updates.
func exchange(t *testing.T, d *platter.Disk, name string, change func(us []api.Update) []api.Update) {
	t.Helper()
	buf := make([]byte, 1<<16)
	title, _, _, e := reel.Scan(d, name, buf)
	if e != api.OK {
		t.Fatal(e)
	}
	r, e := reel.Open(d, name, title, reel.UpdateForm(), buf)
	if e != api.OK {
		t.Fatal(e)
	}
	var us []api.Update
	for _, u := range r.All() {
		us = append(us, u)
	}
	d.Remove(name)
	w, e := reel.Create(d, name, title, reel.UpdateForm(), buf)
	if e != api.OK || w.Put(change(us)...) != api.OK || w.Close() != api.OK {
		t.Fatal(e)
	}
}
