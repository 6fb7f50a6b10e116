package tally

import (
	"strconv"
	"strings"

	"sluice/api"
	"sluice/grain"
)

// Bytes gives the 48 bytes (P2.9).
func (s Sum) Bytes() string {
	var b [api.TallyBytes]byte
	for i := range api.TallyWords {
		grain.Put(b[:], 8*i, 8, s[i])
	}
	return string(b[:])
}

// FromBytes reads them (P2.9).
func FromBytes(b string) (Sum, api.Errno) {
	if len(b) != api.TallyBytes {
		return Sum{}, api.ErrShort
	}
	var s Sum
	for i := range api.TallyWords {
		s[i], _ = grain.Get([]byte(b), 8*i, 8)
	}
	return s, api.OK
}

// No sum has more digits on either side of the point.
const (
	digitsAhead  = 71
	digitsBehind = 149
)

// digits are those of a number without its sign, as letters; the point stands behind the first 71.
type digits [digitsAhead + digitsBehind]byte

// Text gives the exact decimal number (P2.10).
func (s Sum) Text() string {
	d := s.size().digits()
	text := strings.TrimLeft(string(d[:digitsAhead]), "0")
	if text == "" {
		text = "0"
	}
	if behind := strings.TrimRight(string(d[digitsAhead:]), "0"); behind != "" {
		text += "." + behind
	}
	if s.Sign() < 0 {
		return "-" + text
	}
	return text
}

func (s Sum) digits() digits {
	var d digits
	var digit uint64
	whole, fraction := s.down(unitBits, 0), s.up(sumBits-unitBits) // the point is above the fraction's words: what goes beyond them by ten is a digit
	for i := range digitsAhead {
		whole, digit = whole.parted(10)
		d[digitsAhead-1-i] = '0' + byte(digit)
	}
	for i := range digitsBehind {
		fraction, digit = fraction.scaled(10)
		d[digitsAhead+i] = '0' + byte(digit)
	}
	return d
}

// FromText reads one (P2.11).
func FromText(t string) (Sum, api.Errno) {
	if len(t) > api.MaxExact {
		return Sum{}, api.ErrLong
	}
	n, ok := parse(t)
	if !ok {
		return Sum{}, api.ErrDigits
	}
	d, ok := n.lay()
	if !ok {
		return Sum{}, api.ErrExact
	}
	return d.sum(n.neg)
}

// numeral is what a decimal text says.
type numeral struct {
	neg   bool
	all   string // its digits, without the point
	ahead int    // how many of them stand ahead of the point
	ten   int    // the exponent behind the e
}

func parse(t string) (numeral, bool) {
	body := strings.TrimPrefix(t, "-")
	n := numeral{neg: body != t}
	if !n.neg {
		body = strings.TrimPrefix(t, "+")
	}
	if e := strings.IndexAny(body, "eE"); e >= 0 {
		ten, ok := parsePower(body[e+1:])
		if !ok {
			return numeral{}, false
		}
		body, n.ten = body[:e], ten
	}
	ahead, behind, point := strings.Cut(body, ".")
	n.all, n.ahead = ahead+behind, len(ahead)
	return n, areDigits(ahead) && (areDigits(behind) || !point)
}

func parsePower(t string) (int, bool) {
	const mostPlaces = 4
	body := t
	if t != "" && (t[0] == '-' || t[0] == '+') {
		body = t[1:]
	}
	if !areDigits(body) || len(body) > mostPlaces {
		return 0, false
	}
	ten, _ := strconv.Atoi(t)
	return ten, true
}

// areDigits tells whether t is one digit or more, and nothing else.
func areDigits(t string) bool { return t != "" && strings.Trim(t, "0123456789") == "" }

// lay puts the digits in their places; not ok, if there is no place for one that is not 0. No sum has that many ahead of the point; and a last digit that is not 0, so many places behind it, is no multiple of 2^-149.
func (n numeral) lay() (d digits, ok bool) {
	for i := range len(d) {
		d[i] = '0'
	}
	behindZeros := strings.TrimLeft(n.all, "0")
	core := strings.TrimRight(behindZeros, "0")
	if core == "" {
		return d, true
	}
	first := digitsAhead - n.ahead - n.ten + len(n.all) - len(behindZeros)
	if first < 0 || first+len(core) > len(d) {
		return d, false
	}
	copy(d[first:], core)
	return d, true
}

// sum tells the sum that is just the number, with its sign.
func (d digits) sum(neg bool) (Sum, api.Errno) {
	whole := d.whole()
	fraction, exact := d.fraction()
	if !exact {
		return Sum{}, api.ErrExact
	}
	if neg {
		whole, fraction = whole.Neg(), fraction.Neg()
	}
	shifted, err := whole.Shift(unitBits)
	if err != api.OK {
		return Sum{}, err
	}
	s := shifted.Merge(fraction)
	if s.Sign() > 0 && neg { // below the least sum it comes around
		return Sum{}, api.ErrExact
	}
	return s, api.OK
}

// whole tells the number ahead of the point.
func (d digits) whole() Sum {
	var s Sum
	for i := range digitsAhead {
		s, _ = s.scaled(10)
		s = s.Merge(Sum{uint64(d[i] - '0')})
	}
	return s
}

// fraction tells the units behind the point, from the last digit on; not exact, if it is no whole number of them. (If it is one, so is what stands behind any of its digits.)
func (d digits) fraction() (s Sum, exact bool) {
	for i := range digitsBehind {
		digit := Sum{uint64(d[len(d)-1-i] - '0')}
		var left uint64
		s, left = s.Merge(digit.up(unitBits)).parted(10)
		if left != 0 {
			return Sum{}, false
		}
	}
	return s, true
}
