package roster

import (
	"strconv"
	"strings"

	"sluice/api"
)

// cell is one value of a sheet. Both ways tell whether it is one that may stand there.
type cell struct {
	take func(text string) bool // out of a text, into the sheet
	tell func() (string, bool)  // out of the sheet, as a text
}

// row is a field of a sheet: its name, whether it must be there, and which value of the sheet it is.
type row[S any] struct {
	name string
	must bool
	cell func(*S) cell
}

// fill reads a section's fields into a sheet, which has what stands for missing ones; the first field that is wrong, or ok.
func fill[S any](sheet *S, section api.Section, rows []row[S]) (wrong string, ok bool) {
	for _, r := range rows {
		value, there := valueOf(section.Entries, r.name)
		if there && !r.cell(sheet).take(value) || !there && r.must {
			return r.name, false
		}
	}
	return "", true
}

// others tells a section's entries that are no fields.
func others[S any](section api.Section, rows []row[S]) []api.Entry {
	var rest []api.Entry
	for _, e := range section.Entries {
		if !isField(small(e.Name), rows) {
			rest = append(rest, e)
		}
	}
	return rest
}

func isField[S any](name string, rows []row[S]) bool {
	for _, r := range rows {
		if r.name == name {
			return true
		}
	}
	return false
}

// laidOut writes a sheet as a section; not ok, if a value of it may not be.
func laidOut[S any](sheet *S, name string, rows []row[S]) (section api.Section, ok bool) {
	section.Name = name
	for _, r := range rows {
		value, ok := r.cell(sheet).tell()
		if !ok {
			return api.Section{}, false
		}
		section.Entries = append(section.Entries, api.Entry{Name: r.name, Value: value})
	}
	return section, true
}

// number is a whole number in decimal digits.
func number[T ~int | ~int64 | ~uint32](at *T, lo, hi int64) cell {
	return cell{
		take: func(text string) bool {
			n, ok := whole(text, lo, hi)
			*at = T(n)
			return ok
		},
		tell: func() (string, bool) { return strconv.FormatInt(int64(*at), 10), int64(*at) >= lo && int64(*at) <= hi },
	}
}

// count is any number without a sign, in decimal digits.
func count(at *uint64) cell {
	return cell{
		take: func(text string) bool {
			n, err := strconv.ParseUint(text, 10, 64)
			*at = n
			return err == nil
		},
		tell: func() (string, bool) { return strconv.FormatUint(*at, 10), true },
	}
}

// hex is a number in so many hex digits, which are all that it may have.
func hex[T uint32 | uint64](at *T, places int) cell {
	return cell{
		take: func(text string) bool {
			n, err := strconv.ParseUint(text, 16, 4*places)
			*at = T(n)
			return err == nil
		},
		tell: func() (string, bool) { return hexDigits(uint64(*at), places), true },
	}
}

// word is one of some words; the first of them stands for the number first, the others for those behind it.
func word[T ~int](at *T, first T, words ...string) cell {
	return cell{
		take: func(text string) bool {
			place := placeOf(text, words)
			*at = first + T(place)
			return place >= 0
		},
		tell: func() (string, bool) {
			if place := *at - first; place >= 0 && int(place) < len(words) {
				return words[place], true
			}
			return "", false
		},
	}
}

func yesOrNo(at *bool) cell {
	return cell{
		take: func(text string) bool {
			place := placeOf(text, []string{"yes", "no"})
			*at = place == 0
			return place >= 0
		},
		tell: func() (string, bool) {
			if *at {
				return "yes", true
			}
			return "no", true
		},
	}
}

// label is a text of one to most bytes, each a small letter, a digit, `_` or one of the signs.
func label(at *string, most int, signs string) cell {
	right := func() bool {
		return *at != "" && len(*at) <= most && strings.Trim(*at, "abcdefghijklmnopqrstuvwxyz0123456789_"+signs) == ""
	}
	return cell{
		take: func(text string) bool {
			*at = text
			return right()
		},
		tell: func() (string, bool) { return *at, right() },
	}
}

// title is the name of a graph or a run.
func title(at *string) cell { return label(at, api.MaxRunName, "") }

// inRow is several cells with a blank between each two.
func inRow(cells ...cell) cell {
	return cell{
		take: func(text string) bool {
			words := strings.Split(text, " ")
			right := len(words) == len(cells)
			for i := 0; right && i < len(cells); i++ {
				right = cells[i].take(words[i])
			}
			return right
		},
		tell: func() (string, bool) {
			words, right := make([]string, len(cells)), true
			for i, c := range cells {
				word, ok := c.tell()
				words[i], right = word, right && ok
			}
			return strings.Join(words, " "), right
		},
	}
}

// hexWords is the numbers of a list, in 16 hex digits each.
func hexWords(list []uint64) cell {
	cells := make([]cell, len(list))
	for i := range list {
		cells[i] = hex(&list[i], 16)
	}
	return inRow(cells...)
}
