package roster_test

import (
	"math"
	"slices"
	"strconv"
	"strings"
	"testing"

	"sluice/api"
	"sluice/grain"
	"sluice/roster"
)

// P7.5.
func TestFind(t *testing.T) {
	ss := list(sec("a", "x", "1", "X", "2", "y", ""), sec("B", "Yy", "3"), sec("A", "z", "4"), sec("b", "q", "5"), sec("\xff", "\xfe", "6"), sec("", "", "7"), sec("k", "k", "8"))
	rows := []struct {
		section, name, value string
		there                bool
	}{
		{"a", "x", "1", true}, {"A", "X", "1", true}, {"a", "y", "", true}, {"b", "yY", "3", true}, {"B", "yy", "3", true},
		{"a", "z", "", false}, {"A", "z", "", false}, {"b", "q", "", false}, {"c", "x", "", false}, {"a", "", "", false}, {"", "x", "", false}, {"", "", "7", true}, {"a ", "x", "", false},
		{"\xff", "\xfe", "6", true}, {"\xfe", "\xfe", "", false}, {"\xff", "\xff", "", false}, {"\ufffd", "\ufffd", "", false},
		{"K", "k", "8", true}, {"\u212a", "k", "", false}, {"k", "\u212a", "", false},
	}
	for _, r := range rows {
		if value, there := roster.Find(ss, r.section, r.name); value != r.value || there != r.there {
			t.Errorf("Find(%q, %q): %q, %v", r.section, r.name, value, there)
		}
	}
	if value, there := roster.Find(nil, "a", "x"); value != "" || there {
		t.Errorf("of nothing: %q, %v", value, there)
	}
	// Only letters from A to Z have small ones.
	for c := range 256 {
		a, b := string([]byte{byte(c)}), string([]byte{byte(c ^ 32)})
		letter := c|32 >= 'a' && c|32 <= 'z'
		if _, there := roster.Find(list(sec(a, a, "")), b, b); there != letter {
			t.Errorf("the bytes %q and %q: %v", a, b, there)
		}
	}
}

// P7.6, example 5.
func TestInt(t *testing.T) {
	const least, most = math.MinInt64, math.MaxInt64
	rows := []struct {
		value  string
		lo, hi int64
		n      int64
		err    api.Errno
	}{
		{"0", least, most, 0, api.OK}, {"7", 7, 7, 7, api.OK}, {"-12", -12, 5, -12, api.OK}, {"10", 0, 10, 10, api.OK}, {"100", 0, 100, 100, api.OK},
		{"9223372036854775807", least, most, most, api.OK}, {"-9223372036854775808", least, most, least, api.OK},
		{"7", 8, 9, 0, api.ErrField}, {"7", 5, 6, 0, api.ErrField}, {"-1", 0, most, 0, api.ErrField}, {"7", 9, 5, 0, api.ErrField}, {"7", most, least, 0, api.ErrField},
		{"9223372036854775808", least, most, 0, api.ErrField}, {"-9223372036854775809", least, most, 0, api.ErrField}, {"99999999999999999999999", least, most, 0, api.ErrField}, {"18446744073709551615", least, most, 0, api.ErrField},
	}
	for _, bad := range []string{"007", "00", "01", "-0", "-00", "-01", "+1", "+0", "", "-", "--1", "1-", " 1", "1 ", "1.0", "1e3", "0x10", "1_000", "a", "１", "-a", "1\n", "\xff", strings.Repeat("1", 1024)} {
		rows = append(rows, struct {
			value  string
			lo, hi int64
			n      int64
			err    api.Errno
		}{bad, least, most, 0, api.ErrField})
	}
	for _, r := range rows {
		ss := list(sec("a", "n", r.value))
		if n, err := roster.Int(ss, "A", "N", r.lo, r.hi); n != r.n || err != r.err {
			t.Errorf("Int of %q from %d to %d: %d, %d", r.value, r.lo, r.hi, n, err)
		}
	}
	for _, at := range [][2]string{{"a", "m"}, {"b", "n"}, {"", ""}} {
		if n, err := roster.Int(list(sec("a", "n", "1")), at[0], at[1], least, most); n != 0 || err != api.ErrField {
			t.Errorf("Int of what is not there: %d, %d", n, err)
		}
	}
	r := dice(6)
	for range 2000 {
		n, lo, hi := int64(r.Uint64())>>r.Intn(64), int64(r.Uint64())>>r.Intn(64), int64(r.Uint64())>>r.Intn(64)
		got, err := roster.Int(list(sec("a", "n", strconv.FormatInt(n, 10))), "a", "n", lo, hi)
		if in := n >= lo && n <= hi; in && (got != n || err != api.OK) || !in && (got != 0 || err != api.ErrField) {
			t.Fatalf("Int of %d from %d to %d: %d, %d", n, lo, hi, got, err)
		}
	}
}

// P7.6.
func TestReal(t *testing.T) {
	for value, want := range map[string]uint32{"0.5": 0x3f000000, "0x1p-1": 0x3f000000, "1": 0x3f800000, "-0": 0x80000000, "-0x0p+0": 0x80000000, ".1": 0x3dcccccd, "+1e0": 0x3f800000, "inf": 0x7f800000, "-inf": 0xff800000, "nan:400000": 0x7fc00000, "-nan:1": 0xff800001, "0x1.8p+0": 0x3fc00000, "1e-46": 0, "0": 0} {
		if bits, err := roster.Real(list(sec("a", "r", value)), "A", "R"); bits != want || err != api.OK {
			t.Errorf("Real of %q: %x, %d", value, bits, err)
		}
	}
	for _, value := range []string{"", " 1", "1 ", "x", "yes", "0x1", "0x1.80p+0", "0X1P+0", "nan", "nan:", "1e401", "1e-401", "1e12345", ".", "1,5", strings.Repeat("1", 65), "0x1p-1 "} {
		if bits, err := roster.Real(list(sec("a", "r", value)), "a", "r"); bits != 0 || err != api.ErrField {
			t.Errorf("Real of %q: %x, %d", value, bits, err)
		}
	}
	for _, ss := range [][]api.Section{nil, list(sec("a")), list(sec("b", "r", "1"))} {
		if bits, err := roster.Real(ss, "a", "r"); bits != 0 || err != api.ErrField {
			t.Errorf("Real of what is not there: %x, %d", bits, err)
		}
	}
	r := dice(5)
	for range 5000 {
		u := r.Uint32()
		for _, value := range []string{grain.Hex(u), grain.Dec(u)} {
			bits, err := roster.Real(list(sec("a", "r", value)), "a", "r")
			if bits != u || err != api.OK {
				t.Fatalf("Real of %q: %x, %d; not %x", value, bits, err, u)
			}
		}
	}
}

// P7.6, example 5.
func TestWord(t *testing.T) {
	rows := []struct {
		value   string
		allowed []string
		place   int
		err     api.Errno
	}{
		{"YES", []string{"yes", "no"}, 0, api.OK}, {"no", []string{"yes", "NO"}, 1, api.OK}, {"b", []string{"a", "B", "b"}, 1, api.OK}, {"", []string{"a", ""}, 1, api.OK}, {"é", []string{"É", "é"}, 1, api.OK},
		{"yes", nil, -1, api.ErrField}, {"ye", []string{"yes"}, -1, api.ErrField}, {"yes ", []string{"yes"}, -1, api.ErrField}, {"", []string{"a"}, -1, api.ErrField}, {"\u212a", []string{"k"}, -1, api.ErrField}, {"ſ", []string{"s"}, -1, api.ErrField}, {"\xff", []string{"\xfe", "\ufffd"}, -1, api.ErrField}, {"\xff", []string{"\xfe", "\xff"}, 1, api.OK},
	}
	for _, r := range rows {
		if place, err := roster.Word(list(sec("a", "w", r.value)), "A", "W", r.allowed...); place != r.place || err != r.err {
			t.Errorf("Word of %q among %q: %d, %d", r.value, r.allowed, place, err)
		}
	}
	for _, ss := range [][]api.Section{nil, list(sec("a")), list(sec("b", "w", ""))} {
		if place, err := roster.Word(ss, "a", "w", ""); place != -1 || err != api.ErrField {
			t.Errorf("Word of what is not there: %d, %d", place, err)
		}
	}
}

// told is what an iterator tells, up to so many.
func told(ss []api.Section, most int) []string {
	var got []string
	for name, value := range roster.All(ss) {
		if len(got) == most {
			break
		}
		got = append(got, name+"="+value)
	}
	return got
}

// P7.7: all of them; left early, ranged over again, and nested.
func TestAll(t *testing.T) {
	ss := list(sec("a", "x", "1", "y", ""), sec("b"), sec("C.d", "X.y", "é"), sec("a", "x", "2"))
	want := []string{"a.x=1", "a.y=", "C.d.X.y=é", "a.x=2"}
	for most := range 6 {
		if got := told(ss, most); !slices.Equal(got, want[:min(most, len(want))]) {
			t.Errorf("the first %d: %q", most, got)
		}
	}
	all := roster.All(ss)
	for range 2 {
		var got []string
		for name, value := range all {
			got = append(got, name+"="+value)
			inner := 0
			for range all {
				inner++
				if inner == len(got) {
					break
				}
			}
			if inner != len(got) {
				t.Errorf("nested: %d of %d", inner, len(got))
			}
		}
		if !slices.Equal(got, want) {
			t.Errorf("all: %q", got)
		}
	}
	for _, none := range [][]api.Section{nil, {}, list(sec("a"))} {
		for name := range roster.All(none) {
			t.Errorf("of nothing: %q", name)
		}
	}
}

// P7.7 with P0.1: what is handed in is not kept.
func TestAllKeepsNothing(t *testing.T) {
	ss := list(sec("a", "x", "1", "y", "2"))
	all := roster.All(ss)
	spoil(ss)
	var got []string
	for name, value := range all {
		got = append(got, name+"="+value)
	}
	if !slices.Equal(got, []string{"a.x=1", "a.y=2"}) {
		t.Errorf("%q", got)
	}
}
