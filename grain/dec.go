package grain

import (
	"math/big"
	"strconv"

	"sluice/api"
)

// Dec tells a float32 in nine decimal digits (P1.11).
func Dec(u uint32) string {
	if Class(u) >= api.FloatInf {
		return unreal(u)
	}
	return strconv.FormatFloat(float64(Float(u)), 'e', 8, 32)
}

// ReadDec reads a decimal number, rounded once (P1.12).
func ReadDec(s string) (uint32, api.Errno) {
	d, ok := scan(s)
	switch {
	case !ok:
		return 0, api.ErrDigits
	case d.count > api.MaxDigits:
		return 0, api.ErrLong
	case d.ten > api.MaxTen || d.ten < -api.MaxTen:
		return 0, api.ErrFit
	}
	return d.round(), api.OK
}

// decimal is what a decimal text says.
type decimal struct {
	neg      bool
	infinite bool
	digits   []rune // without the point; no more than MaxDigits, however many there are
	count    int    // of all digits
	behind   int    // how many of them stand behind the point
	ten      int    // the exponent behind the e
}

func (d *decimal) take(digit rune) {
	d.count++
	if d.count <= api.MaxDigits {
		d.digits = append(d.digits, digit)
	}
}

// tape is a text that is read front to back. All that a number is made of are single bytes, so each byte is a rune.
type tape struct {
	text string
	at   int
}

const endOfText rune = -1

const mostPlaces = 4 // digits of an exponent

func (t *tape) next() rune {
	if t.at == len(t.text) {
		return endOfText
	}
	t.at++
	return rune(t.text[t.at-1])
}

func isDigit(r rune) bool { return r >= '0' && r <= '9' }

func isSign(r rune) bool { return r == '+' || r == '-' }

// scan is the automaton of decimal texts; the labels are its states.
func scan(s string) (d decimal, ok bool) {
	in := tape{text: s}
	r := in.next()
	if isSign(r) {
		d.neg = r == '-'
		r = in.next()
	}
	if isDigit(r) {
		goto whole
	}
	if r == '.' {
		goto bare
	}
	d.infinite = r == 'i' && in.text[in.at:] == "nf"
	return d, d.infinite

whole: // a digit, no point yet
	d.take(r)
	r = in.next()
	if isDigit(r) {
		goto whole
	}
	if r == '.' {
		r = in.next()
		goto fraction
	}
	goto power

bare: // a point ahead of all digits: one must follow
	r = in.next()
	if !isDigit(r) {
		return d, false
	}

fraction: // behind the point
	if isDigit(r) {
		d.take(r)
		d.behind++
		r = in.next()
		goto fraction
	}

power: // behind all digits
	if r == endOfText {
		return d, true
	}
	if r != 'e' && r != 'E' {
		return d, false
	}
	d.ten, ok = scanPower(&in)
	return d, ok
}

// scanPower is the automaton of what stands behind the e.
func scanPower(in *tape) (ten int, ok bool) {
	sign, places := 1, 0
	r := in.next()
	if isSign(r) {
		if r == '-' {
			sign = -1
		}
		r = in.next()
	}

digit:
	if !isDigit(r) || places == mostPlaces {
		return 0, false
	}
	ten = 10*ten + int(r-'0')
	places++
	r = in.next()
	if r != endOfText {
		goto digit
	}
	return sign * ten, true
}

// round tells the float32 nearest to the number.
func (d decimal) round() uint32 {
	if d.infinite {
		return Round(d.neg, 1, 128)
	}
	over, under := d.ratio()
	// The quotient has more bits than a float32 keeps, so a lowest bit that is set if anything is left over decides as the exact number would.
	const quotientBits = 40
	shift := quotientBits - over.BitLen() + under.BitLen()
	if shift > 0 {
		over.Lsh(over, uint(shift))
	} else {
		under.Lsh(under, uint(-shift))
	}
	quotient, rest := over.QuoRem(over, under, new(big.Int))
	m := quotient.Uint64()
	if rest.Sign() != 0 {
		m |= 1
	}
	return Round(d.neg, m, -shift)
}

// ratio tells the number without its sign, exactly, as a fraction.
func (d decimal) ratio() (over, under *big.Int) {
	over, _ = new(big.Int).SetString(string(d.digits), 10)
	ten := int64(d.ten - d.behind)
	scale := new(big.Int).Exp(big.NewInt(10), big.NewInt(max(ten, -ten)), nil)
	if ten < 0 {
		return over, scale
	}
	return over.Mul(over, scale), big.NewInt(1)
}
