package sieve

import (
	"iter"
	"slices"
	"strconv"
	"strings"

	"sluice/api"
	"sluice/grain"
	"sluice/reel"
)

// partDigits is how many a part has at least in the name of its file.
const partDigits = 4

// filing is one of the ways in which edges are laid into files.
type filing struct {
	back   bool
	family int
	part   func(Ranges, api.Edge) int
}

// filings tells the ways that are asked for, in their order.
func filings(both bool) []filing {
	ways := []filing{
		{false, api.FamEdges, Ranges.BySrc},
		{true, api.FamBack, Ranges.ByDst},
	}
	if both {
		return ways
	}
	return ways[:1]
}

// intake is what an Ingest has under way: a spill for each filing.
type intake struct {
	v      api.Volume
	name   string
	cut    Ranges
	kind   api.EdgeKind
	form   reel.Form[api.Edge]
	spills []*Spill[api.Edge]
}

// Ingest lays edges down in the files of their sources' parts and, if both, of their destinations' (P9.11).
func Ingest(v api.Volume, name string, c Ranges, kind api.EdgeKind, both bool, edges iter.Seq2[api.Edge, api.Errno], fan int, a, b []api.Edge, bytes []byte) (api.Haul, api.Errno) {
	switch {
	case v == nil || edges == nil:
		return api.Haul{}, api.ErrNil
	case c.Parts() == 0:
		return api.Haul{}, api.ErrCut
	}
	form, err := reel.EdgeForm(kind)
	if err != api.OK {
		return api.Haul{}, err
	}
	if _, err := Stages(c.Parts(), fan); err != api.OK {
		return api.Haul{}, err
	}
	ways := filings(both)
	share := len(a) / len(ways)
	if share == 0 || len(b) < len(a) {
		return api.Haul{}, api.ErrTight
	}
	in, whole := &intake{v: v, name: name, cut: c, kind: kind, form: form}, false
	defer func() {
		if !whole {
			in.drop()
		}
	}()
	for i, w := range ways {
		from, to := i*share, (i+1)*share
		if err := in.open(w, fan, a[from:to], b[from:to], bytes); err != api.OK {
			return api.Haul{}, err
		}
	}
	haul, err := in.all(edges)
	whole = err == api.OK
	return haul, err
}

// open begins the files of a filing.
func (in *intake) open(w filing, fan int, a, b []api.Edge, bytes []byte) api.Errno {
	names, titles := in.files(w)
	part := func(e api.Edge) int { return w.part(in.cut, e) }
	s, err := NewSpill(in.v, names, titles, in.form, part, fan, a, b, bytes)
	if err == api.OK {
		in.spills = append(in.spills, s)
	}
	return err
}

// files tells the names and titles of a filing's files.
func (in *intake) files(w filing) ([]string, []api.Title) {
	k := in.cut.Parts()
	names, titles := make([]string, k), make([]api.Title, k)
	tag := uint64(grain.CRC([]byte(in.name))) << 32
	for p := range k {
		names[p] = EdgeFile(in.name, p, w.back)
		titles[p] = api.Title{Family: w.family, Width: in.form.Width(), Tag: tag + uint64(p)}
	}
	return names, titles
}

// all takes the edges and ends the files.
func (in *intake) all(edges iter.Seq2[api.Edge, api.Errno]) (api.Haul, api.Errno) {
	var haul api.Haul
	for e, err := range edges {
		if err == api.OK {
			err = in.take(e)
		}
		if err != api.OK {
			return api.Haul{}, err
		}
		haul.Edges++
	}
	if err := in.finish(&haul); err != api.OK {
		return api.Haul{}, err
	}
	return haul, api.OK
}

// take lays an edge into every spill.
func (in *intake) take(e api.Edge) api.Errno {
	switch {
	case max(e.Src, e.Dst) >= in.cut.Vertices():
		return api.ErrVertex
	case !weighs(in.kind, e.W):
		return api.ErrWeight
	}
	for _, s := range in.spills {
		if err := s.Put(e); err != api.OK {
			return err
		}
	}
	return api.OK
}

// weighs tells whether an edge of this kind may have this third field.
func weighs(kind api.EdgeKind, w uint32) bool {
	switch kind {
	case api.EPlain:
		return w == 0
	case api.EReal:
		return grain.Class(w) < api.FloatInf
	}
	return true
}

// finish ends all files and tells of them in haul.
func (in *intake) finish(haul *api.Haul) api.Errno {
	var all []uint32
	for i, s := range in.spills {
		counts, sums, err := s.finish()
		if err != api.OK {
			return err
		}
		if i == 0 {
			haul.Parts, haul.Sums = counts, sums
		} else {
			haul.Back, haul.BackSums = counts, sums
		}
		all = append(all, sumOf(counts, sums))
	}
	haul.Sum = joint(all)
	return api.OK
}

// joint tells the sum of all spills, out of each one's; of one it is that one's own.
func joint(sums []uint32) uint32 {
	if len(sums) == 1 {
		return sums[0]
	}
	b := make([]byte, 4*len(sums))
	for i, sum := range sums {
		grain.Put(b, 4*i, 4, uint64(sum))
	}
	return grain.CRC(b)
}

// drop removes what all spills have made; what the caller is told is the error that led here.
func (in *intake) drop() {
	for _, s := range in.spills {
		s.Drop()
	}
}

// EdgeFile tells the name of a part's edge file, or back file (P9.12).
func EdgeFile(name string, part int, back bool) string {
	mark := "-e-"
	if back {
		mark = "-r-"
	}
	// There is no part below 0, but its name is to be told too: a sign is no digit.
	digits, below := strings.CutPrefix(strconv.Itoa(part), "-")
	if below {
		mark += "-"
	}
	return name + mark + strings.Repeat("0", max(0, partDigits-len(digits))) + digits
}

// Feed tells edges one by one and, if behind is not OK, at last a zero edge with that error (P9.15).
func Feed(edges []api.Edge, behind api.Errno) iter.Seq2[api.Edge, api.Errno] {
	// A copy: the caller may change the list while it is gone over, or ahead of that.
	told := slices.Clone(edges)
	return func(yield func(api.Edge, api.Errno) bool) {
		for _, e := range told {
			if !yield(e, api.OK) {
				return
			}
		}
		if behind != api.OK {
			yield(api.Edge{}, behind)
		}
	}
}
