package roster

import (
	"iter"
	"slices"
	"strconv"

	"sluice/api"
	"sluice/grain"
)

// Find tells a value (P7.5).
func Find(ss []api.Section, section, name string) (string, bool) {
	section, name = small(section), small(name)
	for _, s := range ss {
		if small(s.Name) == section {
			return valueOf(s.Entries, name)
		}
	}
	return "", false
}

// valueOf tells the value of the first entry of a name in small letters.
func valueOf(entries []api.Entry, name string) (string, bool) {
	for _, e := range entries {
		if small(e.Name) == name {
			return e.Value, true
		}
	}
	return "", false
}

// Int reads a value as a whole number from lo to hi (P7.6).
func Int(ss []api.Section, section, name string, lo, hi int64) (int64, api.Errno) {
	value, _ := Find(ss, section, name) // no number is empty
	n, ok := whole(value, lo, hi)
	if !ok {
		return 0, api.ErrField
	}
	return n, api.OK
}

// whole reads a number that is written in the one way that a number has.
func whole(text string, lo, hi int64) (int64, bool) {
	n, err := strconv.ParseInt(text, 10, 64)
	return n, err == nil && strconv.FormatInt(n, 10) == text && n >= lo && n <= hi
}

// Real reads a value as a float32, by its bits (P7.6).
func Real(ss []api.Section, section, name string) (uint32, api.Errno) {
	value, _ := Find(ss, section, name) // no number is empty
	bits, err := grain.ReadDec(value)
	if err != api.OK {
		bits, err = grain.ReadHex(value)
	}
	if err != api.OK {
		return 0, api.ErrField
	}
	return bits, api.OK
}

// Word tells which of some words a value is (P7.6).
func Word(ss []api.Section, section, name string, allowed ...string) (int, api.Errno) {
	value, there := Find(ss, section, name)
	place := placeOf(value, allowed)
	if !there || place < 0 {
		return -1, api.ErrField
	}
	return place, api.OK
}

// placeOf tells which of some words a text is, in letters of either size, or -1.
func placeOf(text string, words []string) int {
	text = small(text)
	return slices.IndexFunc(words, func(word string) bool { return small(word) == text })
}

// All tells every entry: section and name with a dot between, and the value (P7.7).
func All(ss []api.Section) iter.Seq2[string, string] {
	var entries []api.Entry // of its own: what becomes of ss later on is not told
	for _, s := range ss {
		for _, e := range s.Entries {
			entries = append(entries, api.Entry{Name: s.Name + "." + e.Name, Value: e.Value})
		}
	}
	return func(yield func(string, string) bool) {
		for _, e := range entries {
			if !yield(e.Name, e.Value) {
				return
			}
		}
	}
}
