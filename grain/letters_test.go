package grain_test

import (
	"fmt"
	"math/big"
	"sort"
	"strconv"
	"strings"
	"testing"

	"sluice/api"
	"sluice/grain"
)

// P1.9, example 4.
func TestHex(t *testing.T) {
	for u, want := range map[uint32]string{
		0: "0x0p+0", 1: "0x1p-149", 2: "0x1p-148", 3: "0x1.8p-148", 0x007fffff: "0x1.fffffcp-127", 0x00400000: "0x1p-127", 0x00800000: "0x1p-126", 0x3f800000: "0x1p+0", 0x3fc00000: "0x1.8p+0", 0x3dcccccd: "0x1.99999ap-4", 0x3f800001: "0x1.000002p+0", 0x3f880000: "0x1.1p+0", 0x40000000: "0x1p+1", 0x44800000: "0x1p+10", 0x7f7fffff: "0x1.fffffep+127",
		0x7f800000: "inf", 0x7fc00000: "nan:400000", 0x7f800001: "nan:1", 0x7fffffff: "nan:7fffff", 0x7f80abcd: "nan:abcd",
	} {
		if got := grain.Hex(u); got != want {
			t.Errorf("Hex(%x): %s, not %s", u, got, want)
		}
		if got := grain.Hex(u | 1<<31); got != "-"+want {
			t.Errorf("Hex(%x): %s, not -%s", u|1<<31, got, want)
		}
	}
}

// P1.9: what is told of a number is its exact value.
func TestHexTellsTheValue(t *testing.T) {
	for _, u := range floats() {
		if grain.Class(u) >= api.FloatInf {
			continue
		}
		x, err := strconv.ParseFloat(grain.Hex(u), 64)
		if err != nil || x != float64(grain.Float(u)) {
			t.Fatalf("Hex(%x): %s", u, grain.Hex(u))
		}
	}
}

// P1.10, P1.18.
func TestReadHexReadsWhatHexTells(t *testing.T) {
	for _, u := range floats() {
		if back, e := grain.ReadHex(grain.Hex(u)); back != u || e != api.OK {
			t.Fatalf("ReadHex(%s): %x %v, not %x", grain.Hex(u), back, e, u)
		}
	}
}

// P1.10: no other text, however near.
func TestReadHexRefuses(t *testing.T) {
	for _, s := range []string{
		"", "-", "+", "0", "1", "x", "p", "0x", "0x1", "0x1p", "0x1p+", "0x1p0", "0x1p-", "0x1p+00", "0x1p-0", "0x1p+01", "0x1.p+0", "0x1.80p+0", "0x1.0p+0", "0x1.8p+0 ", " 0x1.8p+0", "+0x1.8p+0", "--0x1.8p+0", "0X1.8p+0", "0x1.8P+0", "0x1.Ap+0", "0x2p+0", "0x0.8p+0", "0x3p+0", "0x18p-4", "0x01p+0", "1p+0", "1.8p+0", "0x1.8p+0p+0", "0x1..8p+0", "0x1.8.p+0", "0x0p-0", "0x0p+1", "0x0", "0x00p+0",
		"0x1p+128", "0x1p-150", "0x1.8p-149", "0x1.000001p+0", "0x1.0000021p+0", "0x1.fffffffp+0", "0x1.fffffep-127", "0x1p+9223372036854775807", "0x1p-9223372036854775808", "0x1.8p-9223372036854775808", "0x1p+99999999999999999999", "0x11111111111111111p+0", "0x1_0p+0",
		"Inf", "INF", "+inf", "infinity", "inf ", "nan", "nan:", "nan:0", "nan:01", "nan:800000", "nan:ABC", "nan:1g", "nan:+1", "-nan", "NaN:1", "nan:0x1", "nan:ffffffffffffffffff", "1.5", "0.1", "\x00", "0x1.8p+0\x00", "\xff", "０x1p+0",
		strings.Repeat("0", 1<<16), "0x1." + strings.Repeat("0", 1<<16) + "p+0", "0x1p+" + strings.Repeat("0", 1<<16), "nan:" + strings.Repeat("0", 1<<16) + "1", strings.Repeat("-", 1<<16),
	} {
		if u, e := grain.ReadHex(s); u != 0 || e != api.ErrDigits {
			t.Errorf("ReadHex(%.40q): %x %v", s, u, e)
		}
	}
}

// P1.11, example 5, ties among them: the last digit is even.
func TestDec(t *testing.T) {
	for u, want := range map[uint32]string{
		0: "0.00000000e+00", 1: "1.40129846e-45", 0x3f800000: "1.00000000e+00", 0x3fc00000: "1.50000000e+00", 0x3dcccccd: "1.00000001e-01", 0x7f7fffff: "3.40282347e+38", 0x4b800000: "1.67772160e+07", 0x00800000: "1.17549435e-38", 0x501502f9: "1.00000000e+10",
		grain.Bits(2097151.125): "2.09715112e+06", grain.Bits(2097151.375): "2.09715138e+06", grain.Bits(1048577.125): "1.04857712e+06", grain.Bits(1048577.375): "1.04857738e+06", grain.Bits(1048577.625): "1.04857762e+06",
		0x7f800000: "inf", 0x7fc00000: "nan:400000", 0x7f800001: "nan:1",
	} {
		if got := grain.Dec(u); got != want {
			t.Errorf("Dec(%x): %s, not %s", u, got, want)
		}
		if got := grain.Dec(u | 1<<31); got != "-"+want {
			t.Errorf("Dec(%x): %s, not -%s", u|1<<31, got, want)
		}
	}
}

// tiesOfNine are floats that lie in the midst of two numbers of nine digits: an odd number of 2^-k with ten digits in all.
func tiesOfNine() []uint32 {
	var all []uint32
	d := dice()
	for _, x := range []struct{ low, span, eighths int }{{1 << 20, 1 << 20, 8}, {100000, 31072, 16}, {131072, 131072, 16}, {10000, 22768, 32}, {32768, 32768, 32}} {
		for range 500 {
			odd := 2*d.IntN(x.eighths/2) + 1
			all = append(all, grain.Bits(float32(x.low+d.IntN(x.span))+float32(odd)/float32(x.eighths)))
		}
	}
	return all
}

// nineDigits tells a positive number by the document's words, with exact fractions: the first digit is not 0, the rest is rounded.
func nineDigits(x *big.Rat) string {
	ten := 0
	for x.Cmp(power(ten)) < 0 {
		ten--
	}
	for x.Cmp(power(ten+1)) >= 0 {
		ten++
	}
	scaled := new(big.Rat).Mul(x, power(8-ten))
	digits, rest := new(big.Int).QuoRem(scaled.Num(), scaled.Denom(), new(big.Int))
	if c := rest.Lsh(rest, 1).Cmp(scaled.Denom()); c > 0 || c == 0 && digits.Bit(0) == 1 {
		digits.Add(digits, big.NewInt(1))
	}
	text := digits.String()
	if len(text) == 10 {
		text, ten = text[:9], ten+1
	}
	sign := "+"
	if ten < 0 {
		sign, ten = "-", -ten
	}
	return fmt.Sprintf("%s.%se%s%02d", text[:1], text[1:], sign, ten)
}

// power tells 10^ten.
func power(ten int) *big.Rat {
	x := new(big.Rat).SetInt(new(big.Int).Exp(big.NewInt(10), big.NewInt(int64(max(ten, -ten))), nil))
	if ten < 0 {
		x.Inv(x)
	}
	return x
}

// P1.11 against the exact numbers.
func TestDecIsTheNearest(t *testing.T) {
	ties := 0
	for _, u := range append(tiesOfNine(), floats()[:6000]...) {
		size := u & 0x7fffffff
		if c := grain.Class(u); c >= api.FloatInf || c == api.FloatZero {
			continue
		}
		want := nineDigits(new(big.Rat).SetFloat64(float64(grain.Float(size))))
		if size != u {
			want = "-" + want
		}
		if got := grain.Dec(u); got != want {
			t.Fatalf("Dec(%x): %s, not %s", u, got, want)
		}
		if exact := strconv.FormatFloat(float64(grain.Float(size)), 'e', 9, 64); strings.HasSuffix(exact[:11], "5") && value(exact).Cmp(new(big.Rat).SetFloat64(float64(grain.Float(size)))) == 0 {
			ties++
		}
	}
	if ties < 2000 {
		t.Errorf("only %d ties were tried", ties)
	}
}

// value tells the exact number that a text says.
func value(s string) *big.Rat {
	x, ok := new(big.Rat).SetString(s)
	if !ok {
		panic("no number: " + s)
	}
	return x
}

// P1.12, example 6.
func TestReadDec(t *testing.T) {
	zeros, nines := strings.Repeat("0", 63), strings.Repeat("9", 64)
	for s, want := range map[string]uint32{
		"0.1": 0x3dcccccd, "16777217": 0x4b800000, "16777219": 0x4b800002, "1e-46": 0, "7.006492321624086e-46": 1, "7.0064923216240853e-46": 0,
		"3.4028236e38": 0x7f800000, "3.4028235e38": 0x7f7fffff, "340282356779733661637539395458142568447.9": 0x7f7fffff, "340282356779733661637539395458142568448": 0x7f800000,
		"1.000000178813934326171875": 0x3f800002, "1.00000017881393432617187499": 0x3f800001, "1.000000178813934326171876": 0x3f800002, "1.000000059604644775390625": 0x3f800000, "1.0000000596046447753906251": 0x3f800001,
		".5": 0x3f000000, "5.": 0x40a00000, "5e-1": 0x3f000000, "5E-1": 0x3f000000, "5.e-1": 0x3f000000, ".5e0": 0x3f000000, ".5e+0000": 0x3f000000, ".5e-0": 0x3f000000,
		"0": 0, "0.": 0, ".0": 0, "00": 0, "0e400": 0, "0e-400": 0, "1e400": 0x7f800000, "1e-400": 0, "1e0400": 0x7f800000, "1e-0400": 0,
		"12.5": 0x41480000, "0012.500": 0x41480000, "1e2": 0x42c80000, "1e02": 0x42c80000, "1e+2": 0x42c80000, "1234567890": 0x4e932c06, "9876543210": 0x50132c06,
		"inf": 0x7f800000, nines: 0x7f800000, nines + "e-64": 0x3f800000, "." + nines: 0x3f800000, nines + ".": 0x7f800000, zeros + "1": 0x3f800000, zeros + ".1": 0x3dcccccd, "." + zeros + "1e64": 0x3f800000, "1" + zeros + "e-63": 0x3f800000, zeros + "1e-400": 0,
	} {
		for sign, bit := range map[string]uint32{"": 0, "+": 0, "-": 1 << 31} {
			if u, e := grain.ReadDec(sign + s); u != want|bit || e != api.OK {
				t.Errorf("ReadDec(%s): %x %v, not %x", sign+s, u, e, want|bit)
			}
		}
	}
}

// P1.12: the errors, and which one comes first.
func TestReadDecRefuses(t *testing.T) {
	digits := strings.Repeat("1", 65)
	many := strings.Repeat("7", 1<<16)
	for want, texts := range map[api.Errno][]string{
		api.ErrDigits: {
			"", "+", "-", ".", "+.", "-.", "e", "E5", ".e5", "e5", "1e", "1e+", "1e-", "1E", "1e12345", "1e+12345", "1e00000", "1e-00001", "0x1", "0x1p+0", "nan", "nan:1", "NaN", "Inf", "INF", "infinity", "in", "i", "inf ", "infe5", "inf.", "inf0", "1inf", "++1", "--1", "+-1", "1+", "1-", "1..", "..1", "1.2.3", ".1.", "1e5.", "1e.5", "1e5e5", "1ee5", "1e5 ", "1 ", " 1", "1 2", "1,5", "1_000", "1e1_0", "1e++5", "1e+-5", "1f", "1.5f", "\x00", "1\x00", "\xff", "1\xff", "1\u0665", "\u0661", "\uff11", "1e\u0661", "a", "/", ":", "1/", "1:", "1e/", "1e:",
			digits + "x", digits + "e", digits + "e12345", digits + ".1.", many + "x", many + "e5e", many + "..", "1e" + many, strings.Repeat("-", 1<<16), strings.Repeat(".", 1<<16),
		},
		api.ErrLong: {
			digits, "-" + digits, "." + digits, digits + ".", strings.Repeat("0", 65), strings.Repeat("0", 64) + ".1", "0." + strings.Repeat("0", 64), digits[:33] + "." + digits[:32], digits + "e1", digits + "e401", digits + "e-9999", many, many + ".", many + ".5e2",
		},
		api.ErrFit: {
			"1e401", "1e-401", "0e401", "-1E+401", "1e0401", "1e9999", "1e-9999", "." + digits[:64] + "e401",
		},
	} {
		for _, s := range texts {
			if u, e := grain.ReadDec(s); u != 0 || e != want {
				t.Errorf("ReadDec(%.80q), %d bytes: %x %v, not %v", s, len(s), u, e, want)
			}
		}
	}
}

// decimals are many texts that ReadDec reads: short and long ones, and those in the midst of two floats, or just beside it.
func decimals() []string {
	d := dice()
	var all []string
	for range 4000 {
		digits := ""
		for range 1 + d.IntN(64) {
			digits += strconv.Itoa(d.IntN(10))
		}
		at := d.IntN(len(digits) + 1)
		all = append(all, digits[:at]+"."+digits[at:]+"e"+strconv.Itoa(d.IntN(120)-60-at))
	}
	for range 2000 {
		u := uint32(90+d.IntN(60))<<23 | d.Uint32()>>9
		midst := new(big.Rat).SetFloat64(float64(grain.Float(u)))
		midst.Add(midst, new(big.Rat).SetFloat64(float64(grain.Float(u+1))))
		text := midst.Quo(midst, big.NewRat(2, 1)).FloatString(61)
		text = strings.TrimRight(text, "0")
		if whole, _, _ := strings.Cut(text, "."); len(whole)+len(text) < 62 {
			all = append(all, text, text+"1", text[:len(text)-1]+"4999", text[:len(text)-1]+"51")
		}
	}
	return all
}

// P1.12 against math/big and strconv.
func TestReadDecIsTheNearest(t *testing.T) {
	for _, s := range decimals() {
		u, e := grain.ReadDec(s)
		exact, _ := value(strings.Replace(s, ".e", "e", 1)).Float32()
		other, _ := strconv.ParseFloat(s, 32)
		if e != api.OK || u != grain.Bits(exact) || u != grain.Bits(float32(other)) {
			t.Fatalf("ReadDec(%s): %x %v, not %x", s, u, e, grain.Bits(exact))
		}
	}
}

// P1.18.
func TestReadDecReadsWhatDecTells(t *testing.T) {
	for _, u := range floats() {
		back, e := grain.ReadDec(grain.Dec(u))
		if isNaN(u) {
			if back != 0 || e != api.ErrDigits {
				t.Fatalf("ReadDec(%s): %x %v", grain.Dec(u), back, e)
			}
		} else if back != u || e != api.OK {
			t.Fatalf("ReadDec(%s): %x %v, not %x", grain.Dec(u), back, e, u)
		}
	}
}

// P1.18: a greater value has no lower rank.
func TestReadDecKeepsTheOrder(t *testing.T) {
	type read struct {
		text string
		is   *big.Rat
		rank int64
	}
	var all []read
	texts := append(decimals(), "0.", "1e-50", "1e-300", "1e39", "1e40", "1e-45", "0.7e-45", "0.70064923216240853e-45", "0.70064923216240854e-45")
	for _, s := range texts {
		for _, sign := range []string{"", "-"} {
			u, _ := grain.ReadDec(sign + s)
			clean := strings.TrimSuffix(strings.Replace(sign+s, ".e", "e", 1), ".")
			all = append(all, read{sign + s, value(clean), grain.Rank(u)})
		}
	}
	sort.Slice(all, func(i, j int) bool { return all[i].is.Cmp(all[j].is) < 0 })
	for i, x := range all[1:] {
		if before := all[i]; before.is.Cmp(x.is) < 0 && before.rank > x.rank {
			t.Fatalf("%s is less than %s; ranks %d, %d", before.text, x.text, before.rank, x.rank)
		}
	}
}
