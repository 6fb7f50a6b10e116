package roster

import (
	"slices"
	"strings"

	"sluice/api"
)

// Parse reads a text (P7.1).
func Parse(text string) (ss []api.Section, err api.Errno, at api.Spot) {
	if len(text) > api.MaxRoster {
		return nil, api.ErrLong, api.Spot{}
	}
	defer func() {
		if gave := recover(); gave != nil {
			ss = nil
			err, at = caught(gave)
		}
	}()
	lookThrough(text)
	var r reading
	for line := range strings.SplitSeq(text, "\n") {
		r.line(line)
	}
	return r.sections, api.OK, api.Spot{}
}

// lookThrough refuses the first character that may not stand in a text, ahead of all that its lines may have wrong.
func lookThrough(text string) {
	spot := api.Spot{Line: 1, Col: 1}
	for at, r := range text {
		rest := text[at:]
		if !mayStand(r, rest) || r == '\r' && !strings.HasPrefix(rest, "\r\n") {
			refuse(api.ErrRune, spot)
		}
		spot.Col++
		if r == '\n' {
			spot = api.Spot{Line: spot.Line + 1, Col: 1}
		}
	}
}

// reading is what the lines up to here have said.
type reading struct {
	lines    int
	sections []api.Section
}

func (r *reading) line(text string) {
	r.lines++
	x := &lexer{line: r.lines, chars: []rune(strings.TrimSuffix(text, "\r"))}
	x.pass(isBlank)
	switch {
	case x.atRest():
	case x.take('['):
		r.head(x)
	default:
		r.entry(x)
	}
}

func (r *reading) head(x *lexer) {
	name, spot := x.word(nameWord)
	x.word(closeWord)
	x.word(headRest)
	switch {
	case hasSection(r.sections, name):
		refuse(api.ErrAgain, spot)
	case len(r.sections) == api.MaxSections:
		refuse(api.ErrBulk, spot)
	}
	r.sections = append(r.sections, api.Section{Name: name})
}

func (r *reading) entry(x *lexer) {
	name, spot := x.word(nameWord)
	if len(r.sections) == 0 {
		refuse(api.ErrOrphan, spot)
	}
	x.word(equalWord)
	value, begin := x.word(valueWord)
	x.word(valueRest)
	section := &r.sections[len(r.sections)-1]
	switch {
	case hasEntry(section.Entries, name):
		refuse(api.ErrAgain, spot)
	case len(section.Entries) == api.MaxEntries:
		refuse(api.ErrBulk, spot)
	case len(value) > api.MaxValue:
		refuse(api.ErrBulk, begin)
	}
	section.Entries = append(section.Entries, api.Entry{Name: name, Value: value})
}

func hasSection(ss []api.Section, name string) bool {
	return slices.ContainsFunc(ss, func(s api.Section) bool { return s.Name == name })
}

func hasEntry(entries []api.Entry, name string) bool {
	return slices.ContainsFunc(entries, func(e api.Entry) bool { return e.Name == name })
}
