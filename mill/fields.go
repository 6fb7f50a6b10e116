package mill

import (
	"math"
	"strings"

	"sluice/api"
	"sluice/roster"
)

// values are what a kernel's fields say.
type values struct {
	source  uint32
	sources []uint32
	seed    uint64
	rounds  int
	damp    uint32 // by its bits
	lesson  string // the name under which a program was taught,
	text    string // and its text
	fuel    int
	args    []api.LoreArg
}

// field is one of a kernel's: what stands for a missing one, and how it is read.
type field struct {
	name  string
	usual string
	take  func(v *values, text string) api.Errno
}

// sheet is a value as layer 7 reads it.
func sheet(text string) ([]api.Section, string, string) {
	return []api.Section{{Name: "job", Entries: []api.Entry{{Name: "value", Value: text}}}}, "job", "value"
}

// whole reads a number from lo to hi.
func whole(text string, lo, hi int64) (int64, api.Errno) {
	ss, section, name := sheet(text)
	return roster.Int(ss, section, name, lo, hi)
}

func sourceField() field {
	return field{"source", "0", func(v *values, text string) api.Errno {
		n, err := whole(text, 0, api.MaxVertices)
		v.source = uint32(n)
		return err
	}}
}

func sourcesField() field {
	return field{"sources", "0", func(v *values, text string) api.Errno {
		for word := range strings.SplitSeq(text, " ") {
			n, err := whole(word, 0, api.MaxVertices)
			if err != api.OK {
				return err
			}
			v.sources = append(v.sources, uint32(n))
		}
		return api.OK
	}}
}

func seedField() field {
	return field{"seed", "0", func(v *values, text string) api.Errno {
		n, err := whole(text, 0, math.MaxInt64)
		v.seed = uint64(n)
		return err
	}}
}

func roundsField(usual string) field {
	return field{"rounds", usual, func(v *values, text string) api.Errno {
		n, err := whole(text, 1, api.MaxRanked)
		v.rounds = int(n)
		return err
	}}
}

func dampField() field {
	return field{"damp", "0.85", func(v *values, text string) (err api.Errno) {
		v.damp, err = roster.Real(sheet(text))
		return err
	}}
}

// programField: a missing one is none that was taught.
func programField() field {
	return field{"program", "", func(v *values, text string) api.Errno {
		v.lesson = text
		return api.OK
	}}
}

func fuelField() field {
	return field{"fuel", "100000", func(v *values, text string) api.Errno {
		n, err := whole(text, 1, api.MaxFuel)
		v.fuel = int(n)
		return err
	}}
}
