package roster

import (
	"strconv"
	"strings"

	"sluice/api"
	"sluice/grain"
)

const sealSize = 16 // bytes of a seal's line

// Seal puts a seal behind a text (P7.4).
func Seal(text string) (string, api.Errno) {
	if len(text) > api.MaxRoster { // so great a text is not copied
		return "", api.ErrLong
	}
	if !endsLine(text) {
		text += "\n"
	}
	if len(text)+sealSize > api.MaxRoster {
		return "", api.ErrLong
	}
	return text + sealOf(text), api.OK
}

// Unseal takes it off, if it is the text's (P7.4).
func Unseal(text string) (string, api.Errno) {
	switch {
	case len(text) > api.MaxRoster:
		return "", api.ErrLong
	case len(text) < sealSize:
		return "", api.ErrSeal
	}
	body := text[:len(text)-sealSize]
	if !endsLine(body) || text[len(body):] != sealOf(body) {
		return "", api.ErrSeal
	}
	return body, api.OK
}

// endsLine tells whether a line may begin behind a text.
func endsLine(text string) bool { return text == "" || strings.HasSuffix(text, "\n") }

// sealOf tells the one line that is a text's seal.
func sealOf(text string) string {
	return "; seal " + hexDigits(uint64(grain.CRC([]byte(text))), 8) + "\n"
}

// hexDigits tells a number in so many small hex digits, which it does not exceed.
func hexDigits(n uint64, places int) string {
	digits := strconv.FormatUint(n, 16)
	return strings.Repeat("0", places-len(digits)) + digits
}
