package roster

import (
	"strings"
	"unicode/utf8"
)

func isSmall(r rune) bool { return r >= 'a' && r <= 'z' }

func isLetter(r rune) bool { return isSmall(r) || r >= 'A' && r <= 'Z' }

func isDigit(r rune) bool { return r >= '0' && r <= '9' }

func isBlank(r rune) bool { return r == ' ' || r == '\t' }

func beginsName(r rune) bool { return isLetter(r) || r == '_' }

func isInName(r rune) bool { return beginsName(r) || isDigit(r) || r == '.' || r == '-' }

// isAllowed tells whether a character may stand in a value.
func isAllowed(r rune) bool { return r >= ' ' || r == '\t' || r == '\n' || r == '\r' }

// mayStand tells it of the character that rest begins with: a byte that is no UTF-8 is told as U+FFFD too, which has three bytes where it is meant.
func mayStand(r rune, rest string) bool {
	if r == utf8.RuneError {
		return strings.HasPrefix(rest, string(utf8.RuneError))
	}
	return isAllowed(r)
}

// small makes a text's capital letters small, those from A to Z alone, and leaves all other bytes as they are.
func small(text string) string {
	b := []byte(text)
	for i, c := range b {
		if c >= 'A' && c <= 'Z' {
			b[i] = c - 'A' + 'a'
		}
	}
	return string(b)
}
