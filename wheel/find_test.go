package wheel_test

import (
	"slices"
	"strings"
	"testing"

	"sluice/api"
	"sluice/platter"
	"sluice/roster"
	"sluice/wheel"
)

// family is what Find and Info, Uproot and Wipe have in common.
type family struct {
	promise  string
	manifest string
	none     api.Errno
	read     func(v api.Volume, name string) api.Errno
	remove   func(v api.Volume, name string) api.Errno
	own      []string // files of the name "a"
	text     func(name string) string
}

func families(t *testing.T) []family {
	graphText := func(name string) string {
		s, e := roster.FromGraph(api.GraphMark{Graph: api.Graph{Name: name, N: 3, Kind: api.EPlain, Parts: 2}})
		if e != api.OK {
			t.Fatal(e)
		}
		return s
	}
	runText := func(name string) string {
		s, e := roster.FromRun(api.RunMark{Run: name, Graph: "g", Words: 2, Gen: 4, Round: 4, Stats: api.Stats{Rounds: 4}, Files: []api.FileMark{{Name: name + "-s-0000004-0000", Records: 3}}})
		if e != api.OK {
			t.Fatal(e)
		}
		return s
	}
	return []family{
		{"P12.2, P12.3", ".graph", api.ErrGraph, func(v api.Volume, name string) api.Errno {
			g, e := wheel.Find(v, name)
			if e != api.OK && g != (api.Graph{}) {
				t.Error("P12.2: something beside an error")
			}
			return e
		}, wheel.Uproot, []string{"a-e-0000", "a-e-0007", "a-r-0511", "a.graph.new"}, graphText},
		{"P12.8, P12.9", ".run", api.ErrRun, func(v api.Volume, name string) api.Errno {
			m, e := wheel.Info(v, name)
			if e != api.OK && (m.Run != "" || m.Files != nil) {
				t.Error("P12.8: something beside an error")
			}
			return e
		}, wheel.Wipe, []string{"a-s-0000000-0000", "a-s-1048576-0511", "a-u-0003", "a.run.new"}, runText},
	}
}

// strangers are files that belong to nothing that is named "a", or not to this form of it.
var strangers = []string{"a", "a-e-000", "a-e-00001", "a-r-x000", "a-s-000000-0000", "a-s-0000000-000", "a-s-0000000.0000", "a-s-0000000-0000-", "a-u-", "a-u-00000", "a.graph.new2", "a.run.news", "aa-e-0000", "b-s-0000000-0000", "b.graph", "b.run", "xa-u-0000"}

// P12.2, P12.3, P12.8, P12.9: the errors of names and of manifests, and what is removed.
func TestManifests(t *testing.T) {
	for _, f := range families(t) {
		d := disk(t)
		for _, name := range append(slices.Clone(f.own), strangers...) {
			put(t, d, name, "x")
		}
		base := image(t, d)
		for _, name := range []string{"", "A", "a-", "a.", "abcdefghijklmnopq", "ä"} {
			if e, g := f.read(d, name), f.remove(d, name); e != api.ErrArg || g != api.ErrArg {
				t.Errorf("%s: name %q: %d, %d", f.promise, name, e, g)
			}
		}
		if e, g := f.read(nil, "A"), f.remove(nil, "A"); e != api.ErrNil || g != api.ErrNil {
			t.Errorf("%s: no volume: %d, %d", f.promise, e, g)
		}
		if e, g := f.read(d, "a"), f.remove(d, "a"); e != f.none || g != f.none {
			t.Errorf("%s: no manifest: %d, %d", f.promise, e, g)
		}
		put(t, d, "a"+f.manifest, f.text("b"))
		if e, g := f.read(d, "a"), f.remove(d, "a"); e != api.ErrOther || g != api.ErrOther {
			t.Errorf("%s: another's manifest: %d, %d", f.promise, e, g)
		}
		d.Remove("a" + f.manifest)
		sameImage(t, f.promise, d, base)
		for _, c := range []struct {
			text string
			e    api.Errno
		}{{f.text("a"), api.OK}, {"", api.ErrSeal}, {strings.Replace(f.text("a"), "\n", "\r", 1), api.ErrSeal}, {strings.Repeat("x", api.MaxRoster+1), api.ErrRoom}, {sealed(t, "[a]\nb = 1\n"), api.ErrField}} {
			d := d.Copy()
			put(t, d, "a"+f.manifest, c.text)
			if e := f.read(d, "a"); e != c.e {
				t.Errorf("%s: %d, want %d", f.promise, e, c.e)
			}
			if e := f.remove(d, "a"); e != api.OK {
				t.Errorf("%s: a manifest that is read with %d: %d", f.promise, c.e, e)
			}
			left := list(t, d)
			for _, name := range append(slices.Clone(f.own), "a"+f.manifest) {
				if slices.Contains(left, name) {
					t.Errorf("%s: %s is left", f.promise, name)
				}
			}
			for _, name := range strangers {
				if !slices.Contains(left, name) {
					t.Errorf("%s: %s was touched", f.promise, name)
				}
			}
		}
	}
}

func sealed(t *testing.T, text string) string {
	t.Helper()
	s, e := roster.Seal(text)
	if e != api.OK {
		t.Fatal(e)
	}
	return s
}

// P12.2, P12.8: the volume's errors, as they come; then, too, it goes on with removing (P12.3, P12.9), whose first error is the answer.
func TestManifestsOnVolumesThatFail(t *testing.T) {
	for _, f := range families(t) {
		fresh := func() *platter.Disk {
			d := disk(t)
			for _, name := range f.own {
				put(t, d, name, "x")
			}
			put(t, d, "a"+f.manifest, f.text("a"))
			return d
		}
		for _, op := range []string{"Size a" + f.manifest, "ReadAt a" + f.manifest} {
			v := refusing(fresh(), op, api.ErrIO)
			if e := f.read(v, "a"); e != api.ErrIO {
				t.Errorf("%s: %s: %d", f.promise, op, e)
			}
			if e := f.remove(v, "a"); e != api.OK {
				t.Errorf("%s: %s: %d", f.promise, op, e)
			}
			if e := f.read(v, "a"); op[:1] == "R" && e != f.none {
				t.Errorf("%s: it is there: %d", f.promise, e)
			}
		}
		for _, op := range []string{"Remove a" + f.manifest, "SyncDir", "List", "Remove " + f.own[1]} {
			d := fresh()
			v := refusing(d, op, api.ErrIO)
			if e := f.remove(v, "a"); e != api.ErrIO {
				t.Errorf("%s: %s refused: %d", f.promise, op, e)
			}
			there := slices.Contains(list(t, d), "a"+f.manifest)
			if there != (op == "Remove a"+f.manifest) {
				t.Errorf("%s: %s refused: the manifest is there: %v", f.promise, op, there)
			}
			if there && len(list(t, d)) != len(f.own)+1 {
				t.Errorf("%s: %s refused, and yet something was removed", f.promise, op)
			}
		}
		d := fresh()
		v := &spy{Volume: d}
		f.remove(v, "a")
		first, synced, listed := slices.Index(v.log, "Remove a"+f.manifest), slices.Index(v.log, "SyncDir "), slices.Index(v.log, "Remove "+f.own[0])
		if first < 0 || synced < first || listed < synced {
			t.Errorf("%s: %v", f.promise, v.log)
		}
		none := (*platter.Disk)(nil)
		if f.read(none, "a") != api.ErrNil || f.remove(none, "a") != api.ErrNil {
			t.Errorf("%s: a nil disk", f.promise)
		}
	}
}

// P12.2: Find tells what was planted, and does not look at the files.
func TestFind(t *testing.T) {
	w := some()
	d, g := planted(t, w)
	d.Remove("g-e-0001")
	if f, e := wheel.Find(d, "g"); e != api.OK || f != g {
		t.Errorf("P12.2: %v, %d", f, e)
	}
	if e := wheel.Uproot(d, "g"); e != api.OK || len(list(t, d)) != 0 {
		t.Errorf("P12.3: %d, %v", e, list(t, d))
	}
	if _, e := wheel.Find(d, "g"); e != api.ErrGraph {
		t.Errorf("P12.2: %d", e)
	}
	w.plant(t, d)
}

// P12.8: Info tells the manifest; what is written into its list nobody sees again.
func TestInfo(t *testing.T) {
	w := some()
	d, g := planted(t, w)
	s, e := wheel.Run(d, bag(t, 1<<16), g, w.prog, 99, w.o)
	if e != api.OK {
		t.Fatal(e)
	}
	m, e := wheel.Info(d, "r")
	if e != api.OK || m.Run != "r" || m.Graph != "g" || m.GraphSum != g.Sum || m.Code != 99 || m.Words != 4 || m.Gen != 3 || m.Round != 3 || !m.Done || m.Stats != s || len(m.Files) != 3 {
		t.Errorf("P12.8: %v, %d", m, e)
	}
	for i, f := range m.Files {
		want := []string{"r-s-0000003-0000", "r-s-0000003-0001", "r-s-0000003-0002"}[i]
		if f.Name != want || f.Records != []int64{4, 3, 3}[i] {
			t.Errorf("P12.8: %v", f)
		}
	}
	m.Files[0].Name = "x"
	if m, _ := wheel.Info(d, "r"); m.Files[0].Name == "x" {
		t.Error("P12.8: its list is shared")
	}
	if e := wheel.Wipe(d, "r"); e != api.OK || len(list(t, d)) != 7 {
		t.Errorf("P12.9: %d, %v", e, list(t, d))
	}
}
