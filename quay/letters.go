package quay

import (
	"strings"

	"sluice/api"
	"sluice/grain"
)

// mostDigits of an integer: any number of so many digits is below 2^64.
const mostDigits = 19

// integer is a whole number as it stands in a text: its sign and its digits' number.
type integer struct {
	negative bool
	size     uint64
}

// readInteger reads perhaps one '-' and one to 19 digits.
func readInteger(text string) (i integer, ok bool) {
	digits, negative := strings.CutPrefix(text, "-")
	if len(digits) < 1 || len(digits) > mostDigits {
		return integer{}, false
	}
	var size uint64
	for at := range len(digits) {
		digit := digits[at]
		if digit < '0' || digit > '9' {
			return integer{}, false
		}
		size = size*10 + uint64(digit-'0')
	}
	return integer{negative, size}, true
}

// within tells an integer that is from 0 to most ("-0" is).
func (i integer) within(most uint64) (int64, bool) {
	if i.size > most || i.negative && i.size > 0 {
		return 0, false
	}
	return int64(i.size), true
}

// counted tells the bits of an integer that is an int32.
func (i integer) counted() (uint32, bool) {
	switch {
	case i.negative && i.size <= 1<<31:
		return -uint32(i.size), true
	case !i.negative && i.size < 1<<31:
		return uint32(i.size), true
	}
	return 0, false
}

// readReal reads a real: ErrToken, if the text is none, ErrScale, if it is not in range.
func readReal(text string) (uint32, api.Errno) {
	bits, err := grain.ReadDec(text)
	switch {
	case err == api.ErrDigits:
		return 0, api.ErrToken
	case err != api.OK || !isFinite(bits):
		return 0, api.ErrScale
	}
	return bits, api.OK
}

func isFinite(bits uint32) bool { return grain.Class(bits) < api.FloatInf }

// isWord tells whether a text is a word of small letters, be its own small or great.
func isWord(text, word string) bool {
	if len(text) != len(word) {
		return false
	}
	for at := range len(word) {
		if small(text[at]) != word[at] {
			return false
		}
	}
	return true
}

func small(letter byte) byte {
	if letter >= 'A' && letter <= 'Z' {
		return letter - 'A' + 'a'
	}
	return letter
}
