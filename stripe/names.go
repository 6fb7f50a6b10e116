package stripe

import (
	"strconv"
	"strings"

	"sluice/api"
)

// How the files of a member are named.
const (
	logPrefix   = "log-"
	dataPrefix  = "data-"
	freshPrefix = "fresh-" // what is to take the place of another file, while it is written
)

func logName(gen uint32) string { return logPrefix + hex(uint64(gen), 8) }

func dataName(id uint64) string { return dataPrefix + hex(id, 16) }

func freshName(id uint64) string { return freshPrefix + hex(id, 16) }

func hex(v uint64, digits int) string {
	text := strconv.FormatUint(v, 16)
	return strings.Repeat("0", max(0, digits-len(text))) + text
}

// genOf tells the generation of the log that has this name.
func genOf(name string) (uint32, bool) {
	text, ok := strings.CutPrefix(name, logPrefix)
	gen, err := strconv.ParseUint(text, 16, 32)
	return uint32(gen), ok && err == nil && name == logName(uint32(gen))
}

// isOurs tells whether a member's file can be a stripe's.
func isOurs(name string) bool {
	return strings.HasPrefix(name, logPrefix) || strings.HasPrefix(name, dataPrefix) || strings.HasPrefix(name, freshPrefix)
}

// isName tells whether a text is a file's name.
func isName(name string) bool {
	if len(name) < 1 || len(name) > api.MaxVolName {
		return false
	}
	for i := range len(name) {
		switch c := name[i]; {
		case c >= 'a' && c <= 'z', c >= '0' && c <= '9', c == '.', c == '-', c == '_':
		default:
			return false
		}
	}
	return true
}
