package stripe

import "sort"

// file is what a name of the stripe stands for. All members hold the same of it: a piece of each row, one behind the other.
type file struct {
	id     uint64
	runs   []run
	rows   uint32
	size   int64  // bytes of its contents
	bytes  int64  // bytes of each member's file
	held   uint32 // so many rows are durable on all members that are in
	synced uint32 // of so many the log tells it
	laid   bool   // members have files for it
	named  bool   // the names of these are durable
	half   bool   // an Append or a Sync was refused: it takes no more
}

// run is some rows beside one another that have one length and one generation.
type run struct {
	length int
	gen    uint32
	row    uint32 // its first row
	count  uint32
	from   int64 // where it begins in the contents
	at     int64 // and in the members' files
}

func (f *file) name() string { return dataName(f.id) }

// extend puts rows behind the others.
func (f *file) extend(l layout, length int, gen, count uint32) {
	if count == 0 {
		return
	}
	if n := len(f.runs); n > 0 && f.runs[n-1].length == length && f.runs[n-1].gen == gen {
		f.runs[n-1].count += count
	} else {
		f.runs = append(f.runs, run{length, gen, f.rows, count, f.size, f.bytes})
	}
	f.rows += count
	f.size += int64(count) * int64(length)
	f.bytes += int64(count) * l.piece(length)
}

// place tells where a row begins in the members' files.
func (f *file) place(l layout, row uint32) int64 {
	i := sort.Search(len(f.runs), func(i int) bool { return f.runs[i].row+f.runs[i].count > row })
	if i == len(f.runs) {
		return f.bytes
	}
	return f.runs[i].at + int64(row-f.runs[i].row)*l.piece(f.runs[i].length)
}
