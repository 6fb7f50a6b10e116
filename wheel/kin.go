package wheel

import (
	"sluice/api"
	"sluice/reel"
)

// kin is all that a graph, or a run, may have on a volume.
type kin struct {
	name  string
	tail  string    // behind the name: its manifest
	forms []string  // behind the name: its other files; # is any digit
	none  api.Errno // there is no manifest
}

func ofGraph(name string) kin {
	return kin{name, ".graph", []string{".graph.new", "-e-####", "-r-####"}, api.ErrGraph}
}

func ofRun(name string) kin {
	return kin{name, ".run", []string{".run.new", "-s-#######-####", "-u-####"}, api.ErrRun}
}

func (k kin) manifest() string { return k.name + k.tail }

// owns tells whether a file is one of its own, beside the manifest.
func (k kin) owns(file string) bool {
	for _, form := range k.forms {
		if fits(file, k.name+form) {
			return true
		}
	}
	return false
}

func fits(file, form string) bool {
	if len(file) != len(form) {
		return false
	}
	for i := range len(form) {
		right := file[i] == form[i]
		if form[i] == '#' {
			right = file[i] >= '0' && file[i] <= '9'
		}
		if !right {
			return false
		}
	}
	return true
}

// absent tells that there is no manifest. One that can't be read is there all the same.
func (k kin) absent(v api.Volume) api.Errno {
	_, err := v.Size(k.manifest())
	switch err {
	case api.OK:
		return api.ErrThere
	case api.ErrNoFile:
		return api.OK
	}
	return err
}

// read tells the manifest's text.
func (k kin) read(v api.Volume) (string, api.Errno) {
	if v == nil {
		return "", api.ErrNil
	}
	if !isName(k.name) {
		return "", api.ErrArg
	}
	size, err := v.Size(k.manifest())
	switch err {
	case api.OK:
	case api.ErrNoFile:
		return "", k.none
	default:
		return "", err
	}
	into := make([]byte, min(size, api.MaxRoster)) // no manifest is longer
	n, err := reel.Fetch(v, k.manifest(), into)
	return string(into[:n]), err
}

// namesOf tells the files of a manifest by their names.
func namesOf(files []api.FileMark) map[string]api.FileMark {
	named := make(map[string]api.FileMark, len(files))
	for _, f := range files {
		named[f.Name] = f
	}
	return named
}

// sweep removes the strays, files that are not named: all of them, whatever is answered. It tells the first error but that a file is not there.
func (k kin) sweep(v api.Volume, named map[string]api.FileMark) api.Errno {
	files, first := v.List()
	for _, file := range files {
		if _, kept := named[file]; kept || !k.owns(file) {
			continue
		}
		err := v.Remove(file)
		if first == api.OK && err != api.ErrNoFile {
			first = err
		}
	}
	return first
}

// discard removes all of it, behind a reading of the manifest that was answered so: one that can't be read may go, too. Without its manifest it is not there any more, whatever of the rest stays.
func (k kin) discard(v api.Volume, reading api.Errno) api.Errno {
	switch reading {
	case api.ErrNil, api.ErrArg, api.ErrOther, k.none:
		return reading
	}
	if err := v.Remove(k.manifest()); err != api.OK {
		return err
	}
	if err := v.SyncDir(); err != api.OK {
		return err
	}
	return k.sweep(v, nil)
}
