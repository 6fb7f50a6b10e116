package grain

import (
	"math/bits"
	"strconv"
	"strings"

	"sluice/api"
)

// Hex tells a float32 in hexadecimal, exactly (P1.9).
func Hex(u uint32) string {
	neg, m, e, err := Parts(u)
	if err != api.OK {
		return unreal(u)
	}
	text := "0x0p"
	if m != 0 {
		text, e = normal(m, e)
	}
	if neg {
		text = "-" + text
	}
	if e >= 0 {
		text += "+"
	}
	return text + strconv.Itoa(e)
}

// normal tells m * 2^e as far as the p, and the exponent that goes behind it.
func normal(m uint32, e int) (string, int) {
	const places = 24 // bits of the fraction, in whole digits
	leading := bits.Len32(m) - 1
	digits := strconv.FormatUint(uint64(m)<<(places-leading), 16)
	fraction := strings.TrimRight(digits[1:], "0")
	if fraction == "" {
		return "0x1p", e + leading
	}
	return "0x1." + fraction + "p", e + leading
}

// unreal tells an infinity or a NaN.
func unreal(u uint32) string {
	text := "inf"
	if Class(u) == api.FloatNaN {
		text = "nan:" + strconv.FormatUint(uint64(u&fractionMask), 16)
	}
	if u >= signBit {
		return "-" + text
	}
	return text
}

// ReadHex reads what Hex tells (P1.10).
func ReadHex(s string) (uint32, api.Errno) {
	u := likelyHex(s)
	if Hex(u) != s {
		return 0, api.ErrDigits
	}
	return u, api.OK
}

// likelyHex tells the only float32 whose text may be s. It looks away from all that is wrong in s: who asks compares.
func likelyHex(s string) uint32 {
	body, neg := strings.CutPrefix(s, "-")
	var sign uint32
	if neg {
		sign = signBit
	}
	if body == "inf" {
		return sign | infinity
	}
	if digits, is := strings.CutPrefix(body, "nan:"); is {
		fraction, _ := strconv.ParseUint(digits, 16, fractionBits)
		return sign | infinity | uint32(fraction)
	}
	significand, power, _ := strings.Cut(strings.TrimPrefix(body, "0x"), "p")
	whole, fraction, _ := strings.Cut(significand, ".")
	m, _ := strconv.ParseUint(whole+fraction, 16, 64)
	e, _ := strconv.Atoi(power)
	return Round(neg, m, e-4*len(fraction))
}
