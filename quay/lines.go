package quay

import (
	"iter"
	"strings"

	"sluice/api"
)

// line is a line of an input without its end: which one it is, from 1 on, and where in the input it begins.
type line struct {
	text   string
	number int
	at     int
}

// field is a run of a line's bytes that are neither blank nor tab, and where in the line it begins.
type field struct {
	text string
	at   int
}

// lines goes over the lines of an input.
func lines(input string) iter.Seq[line] {
	return func(yield func(line) bool) {
		at := 0
		for number := 1; at < len(input); number++ {
			text, _, _ := strings.Cut(input[at:], "\n")
			if !yield(line{strings.TrimSuffix(text, "\r"), number, at}) {
				return
			}
			at += len(text) + 1
		}
	}
}

// fields goes over the fields of a line.
func (l line) fields() iter.Seq[field] {
	return func(yield func(field) bool) {
		for at := 0; at < len(l.text); {
			end := at
			for end < len(l.text) && !isBlank(l.text[end]) {
				end++
			}
			if end > at && !yield(field{l.text[at:end], at}) {
				return
			}
			at = end + 1
		}
	}
}

// first is the first field of a line; one of no bytes, if the line is empty.
func (l line) first() field {
	for f := range l.fields() {
		return f
	}
	return field{}
}

// wrong tells what is wrong at a byte of a line.
func (l line) wrong(err api.Errno, at int) api.Snag {
	return api.Snag{Code: err, Line: l.number, Col: at + 1, At: l.at + at}
}

func isBlank(b byte) bool { return b == ' ' || b == '\t' }
