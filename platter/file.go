package platter

import (
	"maps"
	"slices"

	"sluice/api"
)

// file is what a name stands for; a rename takes it along.
type file struct {
	bytes  []byte
	synced int64       // so many of the first bytes are durable
	next   int64       // where the last read has ended
	counts api.VolStat // what was done to it; its other fields are filled when it is told
}

func (f *file) size() int64 { return int64(len(f.bytes)) }

// rot turns a bit for good, as FaultRot says it.
func (f *file) rot(n int64) {
	if len(f.bytes) > 0 {
		turn(f.bytes, n)
	}
}

// turn turns the bit number n of bytes that are not none, counted round.
func turn(bytes []byte, n int64) {
	all := 8 * int64(len(bytes))
	bit := (n%all + all) % all // % alone keeps the sign
	bytes[bit/8] ^= 1 << (bit % 8)
}

// clipped tells n, or the nearest number from 0 to most.
func clipped(n, most int64) int64 { return min(max(n, 0), most) }

// isName tells whether a text is a file's name.
func isName(name string) bool {
	if len(name) < 1 || len(name) > api.MaxVolName {
		return false
	}
	for i := range len(name) {
		switch c := name[i]; {
		case c >= 'a' && c <= 'z', c >= '0' && c <= '9', c == '.', c == '-', c == '_':
		default:
			return false
		}
	}
	return true
}

// directory says which file each name stands for.
type directory map[string]*file

func (dir directory) sorted() []string { return slices.Sorted(maps.Keys(dir)) }

// find gives the file of a name.
func (dir directory) find(name string) (*file, api.Errno) {
	if !isName(name) {
		return nil, api.ErrVolName
	}
	f := dir[name]
	if f == nil {
		return nil, api.ErrNoFile
	}
	return f, api.OK
}

// with gives a directory of the same names, whose files are others.
func (dir directory) with(other func(*file) *file) directory {
	made := make(directory, len(dir))
	for name, f := range dir {
		made[name] = other(f)
	}
	return made
}

// change is a change of the directory: a name that goes, if there is one, and a name that stands for a file now, if there is a file.
type change struct {
	gone string
	name string
	file *file
}

// apply makes changes, in their order.
func (dir directory) apply(changes ...change) {
	for _, c := range changes {
		delete(dir, c.gone)
		if c.file != nil {
			dir[c.name] = c.file
		}
	}
}
