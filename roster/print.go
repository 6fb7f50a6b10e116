package roster

import (
	"strings"

	"sluice/api"
)

// Print writes sections (P7.2).
func Print(ss ...api.Section) (string, api.Errno) {
	for i, s := range ss {
		if err := sectionFault(ss[:i], s); err != api.OK {
			return "", err
		}
	}
	text := written(ss)
	if len(text) > api.MaxRoster {
		return "", api.ErrBulk
	}
	return text, api.OK
}

// Valid tells whether Print takes them (P7.2).
func Valid(ss ...api.Section) bool {
	_, err := Print(ss...)
	return err == api.OK
}

// sectionFault tells what is wrong with a section behind others.
func sectionFault(before []api.Section, s api.Section) api.Errno {
	switch {
	case !isName(s.Name):
		return api.ErrName
	case hasSection(before, s.Name):
		return api.ErrAgain
	case len(before) == api.MaxSections:
		return api.ErrBulk
	}
	for i, e := range s.Entries {
		if err := entryFault(s.Entries[:i], e); err != api.OK {
			return err
		}
	}
	return api.OK
}

// entryFault tells what is wrong with an entry behind others of its section.
func entryFault(before []api.Entry, e api.Entry) api.Errno {
	switch {
	case !isName(e.Name):
		return api.ErrName
	case hasEntry(before, e.Name):
		return api.ErrAgain
	case len(before) == api.MaxEntries || len(e.Value) > api.MaxValue:
		return api.ErrBulk
	case !isValue(e.Value):
		return api.ErrRune
	}
	return api.OK
}

// isName tells whether a text is a name as names are told: in small letters.
func isName(text string) bool {
	if len(text) > api.MaxKeyName {
		return false
	}
	for at, r := range text {
		if isLetter(r) && !isSmall(r) || !isInName(r) || at == 0 && !beginsName(r) {
			return false
		}
	}
	return text != ""
}

func isValue(text string) bool {
	for at, r := range text {
		if !mayStand(r, text[at:]) {
			return false
		}
	}
	return true
}

func written(ss []api.Section) string {
	var text strings.Builder
	for i, s := range ss {
		if i > 0 {
			text.WriteString("\n")
		}
		text.WriteString("[" + s.Name + "]\n")
		for _, e := range s.Entries {
			text.WriteString(e.Name + " = " + valueText(e.Value) + "\n")
		}
	}
	return text.String()
}

func valueText(value string) string {
	if isBare(value) {
		return value
	}
	escapes := strings.NewReplacer("\\", "\\\\", "\"", "\\\"", "\n", "\\n", "\t", "\\t", "\r", "\\r")
	return "\"" + escapes.Replace(value) + "\""
}

// isBare tells whether a value is read again as it is without quotes.
func isBare(value string) bool {
	return value != "" && !strings.ContainsAny(value, "\t\n\r") && strings.Trim(value, " ") == value && value[0] != '"'
}
