package tally_test

import (
	"encoding/binary"
	"math/big"
	"strconv"
	"strings"
	"testing"

	"sluice/api"
	"sluice/tally"
)

// P2.9, P2.13.
func TestBytes(t *testing.T) {
	for _, s := range sums() {
		var want []byte
		for _, w := range s {
			want = binary.LittleEndian.AppendUint64(want, w)
		}
		if got := s.Bytes(); got != string(want) {
			t.Fatalf("%v: %q, not %q", s, got, want)
		}
		if back, e := tally.FromBytes(s.Bytes()); back != s || e != api.OK {
			t.Fatalf("%v: back it is %v %v", s, back, e)
		}
	}
}

// P2.9: any other length.
func TestFromBytesRefuses(t *testing.T) {
	for n := range 200 {
		if n == api.TallyBytes {
			continue
		}
		if s, e := tally.FromBytes(strings.Repeat("\x01", n)); s != (tally.Sum{}) || e != api.ErrShort {
			t.Errorf("%d bytes: %v %v", n, s, e)
		}
	}
	if s, e := tally.FromBytes(strings.Repeat("\xff", 1<<20)); s != (tally.Sum{}) || e != api.ErrShort {
		t.Errorf("a long text: %v %v", s, e)
	}
}

// decimal tells a sum's text by another way: exact fractions of the library's.
func decimal(s tally.Sum) string {
	text := new(big.Rat).SetFrac(integer(s), power(149)).FloatString(149)
	return strings.TrimSuffix(strings.TrimRight(text, "0"), ".")
}

// P2.10, P2.13.
func TestText(t *testing.T) {
	list := sums()
	for _, u := range finite() {
		list = append(list, of(t, float(u)))
	}
	for _, s := range list {
		got := s.Text()
		if want := decimal(s); got != want && s != (tally.Sum{}) {
			t.Fatalf("%v: %s, not %s", s, got, want)
		}
		if back, e := tally.FromText(got); back != s || e != api.OK {
			t.Fatalf("%s: %v %v, not %v", got, back, e, s)
		}
	}
}

// P2.10, example 6, and the longest texts.
func TestTextExamples(t *testing.T) {
	for want, s := range map[string]tally.Sum{
		"0": {}, "1": of(t, 1), "-1": of(t, -1), "0.5": of(t, 0.5), "-0.5": of(t, -0.5), "10": of(t, 10), "100": of(t, 100), "16777216.25": of(t, 16777216, 0.25), "-1024.0625": of(t, -1024.0625), "0.100000001490116119384765625": of(t, 0.1),
		"340282346638528859811704183484516925440": of(t, float(greatestFloat)),
		"-" + power(234).String():                 least,
	} {
		if got := s.Text(); got != want {
			t.Errorf("%v: %s, not %s", s, got, want)
		}
	}
	unit, most := tally.Sum{1}.Text(), greatest.Text()
	if len(unit) != 151 || !strings.HasPrefix(unit, "0.000") || !strings.HasSuffix(unit, "125") {
		t.Errorf("the unit: %s", unit)
	}
	if len(most) != 71+1+149 || most[71] != '.' || len(least.Text()) != 72 {
		t.Errorf("the ends: %s, %s", most, least.Text())
	}
}

func check(t *testing.T, text string, want tally.Sum, e api.Errno) {
	t.Helper()
	if got, err := tally.FromText(text); got != want || err != e {
		t.Errorf("%.60q: %v %v, not %v %v", text, got, err, want, e)
	}
}

// P2.11, example 6.
func TestFromText(t *testing.T) {
	half, hundred := of(t, 0.5), of(t, 100)
	for text, want := range map[string]tally.Sum{
		"0": {}, "-0": {}, "+0": {}, "0.0": {}, "-0.000": {}, "0e9999": {}, "0e-9999": {}, "-0.0E+0000": {}, "000": {}, strings.Repeat("0", 600): {}, "0." + strings.Repeat("0", 598): {}, "0." + strings.Repeat("0", 300) + "e9999": {}, "0." + strings.Repeat("0", 300) + "e-9999": {},
		"1e2": hundred, "1E2": hundred, "1e+2": hundred, "1e0002": hundred, "+100": hundred, "100.000": hundred, "00100": hundred, "10000e-2": hundred, "0.001e5": hundred, strings.Repeat("0", 597) + "100": hundred, "100." + strings.Repeat("0", 596): hundred, "1" + strings.Repeat("0", 500) + "e-498": hundred, "0." + strings.Repeat("0", 500) + "1e503": hundred,
		"5e-1": half, "+5e-1": half, "0.5": half, "00.50": half, "50E-02": half, "-0.5": half.Neg(), "-5e-1": half.Neg(), "250E-0002": of(t, 2.5), "0.100000001490116119384765625": of(t, 0.1), "-12.25": of(t, -12.25), "9": of(t, 9), "0.75": of(t, 0.75),
	} {
		check(t, text, want, api.OK)
	}
}

// P2.11: the ends of the range, and one step beyond each; the unit, and what is finer.
func TestFromTextAtTheEnds(t *testing.T) {
	edge, unit := power(234).String(), tally.Sum{1}.Text()
	check(t, "-"+edge, least, api.OK)
	check(t, edge, tally.Sum{}, api.ErrExact)
	check(t, greatest.Text(), greatest, api.OK)
	check(t, "-"+greatest.Text(), greatest.Neg(), api.OK)
	check(t, "-"+edge+unit[1:], tally.Sum{}, api.ErrExact)
	check(t, "-"+edge+".5", tally.Sum{}, api.ErrExact)
	check(t, "-"+new(big.Int).Add(power(234), big.NewInt(1)).String(), tally.Sum{}, api.ErrExact)
	check(t, new(big.Int).Sub(power(234), big.NewInt(1)).String(), wrapped(new(big.Int).Sub(power(383), power(149))), api.OK)
	check(t, "-"+edge+".000", least, api.OK)
	check(t, "-"+edge+"000e-3", least, api.OK)
	for _, whole := range []*big.Int{power(235), power(236), power(384), new(big.Int).Add(power(235), big.NewInt(1)), new(big.Int).Add(power(234), power(100))} {
		check(t, whole.String(), tally.Sum{}, api.ErrExact)
		check(t, "-"+whole.String(), tally.Sum{}, api.ErrExact)
	}
	check(t, strings.Repeat("9", 71), tally.Sum{}, api.ErrExact)
	check(t, "1e70", wrapped(new(big.Int).Mul(power(149), new(big.Int).Exp(big.NewInt(10), big.NewInt(70), nil))), api.OK)
	check(t, "1e71", tally.Sum{}, api.ErrExact)
	check(t, "-1e71", tally.Sum{}, api.ErrExact)
	check(t, "1e9999", tally.Sum{}, api.ErrExact)
	check(t, "1e-9999", tally.Sum{}, api.ErrExact)
	check(t, strings.Repeat("9", 595)+"e9999", tally.Sum{}, api.ErrExact)

	check(t, unit, tally.Sum{1}, api.OK)
	check(t, "-"+unit, tally.Sum{1}.Neg(), api.OK)
	check(t, unit+"0000", tally.Sum{1}, api.OK)
	check(t, unit[2:]+"e-149", tally.Sum{1}, api.OK)
	check(t, new(big.Rat).SetFrac(big.NewInt(1), power(150)).FloatString(150), tally.Sum{}, api.ErrExact)
	check(t, new(big.Rat).SetFrac(big.NewInt(3), power(150)).FloatString(150), tally.Sum{}, api.ErrExact)
	check(t, unit[:len(unit)-1]+"6", tally.Sum{}, api.ErrExact)
	check(t, unit[:len(unit)-1], tally.Sum{}, api.ErrExact)
	check(t, unit+"5", tally.Sum{}, api.ErrExact)
	for _, text := range []string{"0.1", "0.3", "-0.7", "1e-1", "0.2", "0.6", "1.1", "0.26", "123456.789", "0.1000000014901161193847656251", "1e-149", "5e-149", "1e-150"} {
		check(t, text, tally.Sum{}, api.ErrExact)
	}
}

// P2.11: numbers at random against exact fractions.
func TestFromTextIsExact(t *testing.T) {
	roll := dice()
	low, high := new(big.Int).Neg(power(383)), power(383)
	for range 20000 {
		n := new(big.Int).SetUint64(roll.Uint64() >> roll.IntN(64))
		if roll.IntN(3) > 0 { // often enough a whole number of units
			n.Mul(n, new(big.Int).Exp(big.NewInt(5), big.NewInt(roll.Int64N(40)), nil))
		}
		ten := roll.IntN(120) - 60
		text := n.String() + "e" + strconv.Itoa(ten)
		if cut := roll.IntN(len(n.String()) + 1); cut > 0 && cut < len(n.String()) {
			text = n.String()[:cut] + "." + n.String()[cut:] + "E" + strconv.Itoa(ten)
		}
		if roll.IntN(2) == 0 {
			text = "-" + text
		}
		r, ok := new(big.Rat).SetString(text)
		if !ok {
			t.Fatalf("%s", text)
		}
		r.Mul(r, new(big.Rat).SetInt(power(149)))
		want, e := tally.Sum{}, api.ErrExact
		if r.IsInt() && r.Num().Cmp(low) >= 0 && r.Num().Cmp(high) < 0 {
			want, e = wrapped(r.Num()), api.OK
		}
		if got, err := tally.FromText(text); got != want || err != e {
			t.Fatalf("%s: %v %v, not %v %v", text, got, err, want, e)
		}
	}
}

// P2.11: what is no number, and which error comes first.
func TestFromTextRefuses(t *testing.T) {
	for _, text := range []string{
		"", "-", "+", ".", "e", "E", "-.5", ".5", "5.", "-5.", ".", "-.", "1.e5", ".e5", "1.5.2", "1..5", "1e", "1E", "1e+", "1e-", "e5", "1e12345", "1e+12345", "1e00001", "1e-00001", "1e5.0", "1e5e5", "1ee5", "1e+-5", "1e--5", "--1", "++1", "+-1", "-+1", "1-", "1+1", " 1", "1 ", "1 e5", "1_0", "0x10", "inf", "nan", "1,5", "1e5 ", "1\x00", "\x001", "\xff", "１", "1e１", "1.٣", "0b1", "1f", "1p5", "1.5f", "1.-5", "1.+5", "\n1", "1\n",
		strings.Repeat("9", 599) + ".", "." + strings.Repeat("9", 599), strings.Repeat("-", 600), strings.Repeat("1", 594) + "e00001",
	} {
		check(t, text, tally.Sum{}, api.ErrDigits)
	}
	for _, text := range []string{strings.Repeat("0", 601), strings.Repeat("x", 601), strings.Repeat("9", 601), "1" + strings.Repeat(" ", 600), strings.Repeat("0", 1<<20), "0." + strings.Repeat("0", 599)} {
		check(t, text, tally.Sum{}, api.ErrLong)
	}
	check(t, strings.Repeat("9", 600), tally.Sum{}, api.ErrExact)
	check(t, strings.Repeat("x", 600), tally.Sum{}, api.ErrDigits)
	check(t, "1e9999x", tally.Sum{}, api.ErrDigits)
}
