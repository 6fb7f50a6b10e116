package roster_test

import (
	"fmt"
	"strings"
	"testing"
	"unicode/utf8"

	"sluice/api"
	"sluice/roster"
)

// refused wants no sections, this error, and this place.
func refused(t *testing.T, text string, want api.Errno, line, col int) {
	t.Helper()
	ss, err, at := roster.Parse(text)
	if len(ss) != 0 || err != want || at != (api.Spot{Line: line, Col: col}) {
		t.Errorf("Parse(%.120q): %d at %v, not %d at {%d %d}; %v", text, err, at, want, line, col, ss)
	}
}

// reads wants these sections.
func reads(t *testing.T, text string, want ...api.Section) {
	t.Helper()
	ss, err, at := roster.Parse(text)
	if !same(ss, want) || err != api.OK || at != (api.Spot{}) {
		t.Errorf("Parse(%.120q): %v, %d at %v; not %v", text, ss, err, at, want)
	}
}

// P7.1, example 1.
func TestParse(t *testing.T) {
	reads(t, lines("[Graph]", "name = g1  ", "; a word", `title = "a \"b\" \u{e9}" # more`), sec("graph", "name", "g1", "title", `a "b" é`))
	reads(t, "")
	reads(t, "\n\n  \n\t\n")
	reads(t, "  # [a\n;x = 1\n\t;")
	reads(t, "[a]", sec("a"))
	reads(t, "\t [\t a \t]\t # c", sec("a"))
	reads(t, "[a];c\n[b]#c", sec("a"), sec("b"))
	reads(t, "[a]\nx=1\n\n[b]\nx=2\ny=3\n[c]", sec("a", "x", "1"), sec("b", "x", "2", "y", "3"), sec("c"))
	reads(t, "[_]\n_=_\n[a0._-]\nb.-_9 =9", sec("_", "_", "_"), sec("a0._-", "b.-_9", "9"))
	reads(t, "[job.2]\n job.2 = job.2", sec("job.2", "job.2", "job.2"))
}

// P7.1: everything but blanks at both ends, comments' signs, quotes and all.
func TestBareValues(t *testing.T) {
	for text, want := range map[string]string{
		"": "", " \t ": "", "1": "1", " \t1 \t": "1", "a b\tc": "a b\tc", "a # b": "a # b", "# b": "# b", ";": ";", "a;b ; ": "a;b ;",
		`a"b"`: `a"b"`, `'`: `'`, `\n`: `\n`, `\`: `\`, "= =": "= =", "[x]": "[x]", "é\u00a0": "é\u00a0", "\u2028": "\u2028", "\u007f": "\u007f", "\ufffd": "\ufffd", "\ufeff": "\ufeff", "\U0010ffff": "\U0010ffff",
	} {
		for _, end := range []string{"", "\n", "\r\n", "\nz=2"} {
			entries := []string{"x", want}
			if strings.HasPrefix(end, "\nz") {
				entries = append(entries, "z", "2")
			}
			reads(t, "[a]\nx="+text+end, sec("a", entries...))
		}
	}
}

// P7.1: every escape, all else as it is, and what may stand behind.
func TestQuotedValues(t *testing.T) {
	for text, want := range map[string]string{
		`""`: "", `" "`: " ", "\" \t\"": " \t", `"a"`: "a", `"a"#`: "a", `"a" ; "b"`: "a", "\"a\" \t": "a", `"#;[]="`: "#;[]=", `"é"`: "é", "\"\ufffd\"": "\ufffd",
		`"\\"`: `\`, `"\""`: `"`, `"\n"`: "\n", `"\t"`: "\t", `"\r"`: "\r", `"\\n"`: `\n`, `"\\\""`: `\"`, `"\\\\"`: `\\`, `"n\nn"`: "n\nn",
		`"\u{9}"`: "\t", `"\u{a}"`: "\n", `"\u{D}"`: "\r", `"\u{00000d}"`: "\r", `"\u{20}"`: " ", `"\u{22}"`: `"`, `"\u{5c}n"`: `\n`, `"\u{7f}"`: "\x7f", `"\u{e9}"`: "é", `"\u{E9}"`: "é", `"\u{fffd}"`: "\ufffd", `"\u{FeFf}"`: "\ufeff",
		`"\u{d7ff}"`: "\ud7ff", `"\u{e000}"`: "\ue000", `"\u{ffff}"`: "\uffff", `"\u{10ffff}"`: "\U0010ffff", `"\u{10FFFF}\u{41}"`: "\U0010ffffA", `"\u{1F600}x"`: "\U0001f600x", `"\u{000041}"`: "A",
	} {
		reads(t, "[a]\nx = "+text, sec("a", "x", want))
	}
}

// P7.1: escapes that are none, at their backslash.
func TestEscapesThatAreNone(t *testing.T) {
	bad := []string{`\q`, `\0`, `\N`, `\T`, `\R`, `\U{41}`, `\ `, `\é`, `\'`, `\u`, `\u41`, `\u{`, `\u{}`, `\u{41`, `\u41}`, `\u {41}`, `\u{ 41}`, `\u{41 }`, `\u{0000041}`, `\u{1000000}`, `\u{4_1}`, `\u{+41}`, `\u{-1}`, `\u{0x41}`, `\u{g}`, `\u{４}`, `\u{4é}`, `\u{110000}`, `\u{ffffff}`, `\u{d800}`, `\u{DFFF}`, `\u{dabc}`, `\u(41)`}
	for c := range 32 {
		if c != 9 && c != 10 && c != 13 {
			bad = append(bad, fmt.Sprintf(`\u{%x}`, c), fmt.Sprintf(`\u{%06X}`, c))
		}
	}
	for _, e := range bad {
		refused(t, "[a]\nx="+`"`+e+`"`, api.ErrQuote, 2, 4)
		refused(t, "[a]\n x = "+`"é\n`+e+`\q" more`, api.ErrQuote, 2, 10)
	}
	// A backslash takes what is behind it along, so these quotes are not closed.
	for _, v := range []string{`"`, `"1`, `"\`, `"\"`, `"\\\"`, `"\q`, `"\u{`, `"\u{\"`, `"\q\"`, `"a\" #`} {
		refused(t, "[a]\nx = "+v, api.ErrQuote, 2, 5)
		refused(t, "[a]\nx = "+v+"\ny = \"", api.ErrQuote, 2, 5)
	}
}

// P7.1, example 2, and each fault of a head.
func TestFaultsOfHeads(t *testing.T) {
	long := strings.Repeat("n", api.MaxKeyName+1)
	refused(t, "[a] x", api.ErrHead, 1, 5)
	refused(t, "[a", api.ErrHead, 1, 3)
	refused(t, "[a]\n[A]", api.ErrAgain, 2, 2)
	refused(t, "[", api.ErrName, 1, 2)
	refused(t, "[ \t", api.ErrName, 1, 4)
	refused(t, " []", api.ErrName, 1, 3)
	refused(t, "[1]", api.ErrName, 1, 2)
	refused(t, "[.a]", api.ErrName, 1, 2)
	refused(t, "[-]", api.ErrName, 1, 2)
	refused(t, "[#]", api.ErrName, 1, 2)
	refused(t, "[é]", api.ErrName, 1, 2)
	refused(t, "[[a]]", api.ErrName, 1, 2)
	refused(t, "[\u212a]", api.ErrName, 1, 2) // the sign of the Kelvin is no letter, though its small one is k
	refused(t, "[ "+long+" ]", api.ErrName, 1, 3)
	refused(t, "[a \t", api.ErrHead, 1, 5)
	refused(t, "[a b]", api.ErrHead, 1, 4)
	refused(t, "[aé]", api.ErrHead, 1, 3)
	refused(t, "[a=1]", api.ErrHead, 1, 3)
	refused(t, "[a # ]", api.ErrHead, 1, 4)
	refused(t, "[a]]", api.ErrHead, 1, 4)
	refused(t, "[a]\tb = 1", api.ErrHead, 1, 5)
	refused(t, "[a] é", api.ErrHead, 1, 5)
	refused(t, "[b]\n[a]\nx=1\n\t[ b ] # c", api.ErrAgain, 4, 4)
	refused(t, "[ab.C]\n[Ab.c]", api.ErrAgain, 2, 2)
}

// P7.1, example 2, and each fault of an entry.
func TestFaultsOfEntries(t *testing.T) {
	long := strings.Repeat("n", api.MaxKeyName+1)
	refused(t, "x = 1", api.ErrOrphan, 1, 1)
	refused(t, "[a]\nx 1", api.ErrEqual, 2, 3)
	refused(t, "[a]\nx = \"1", api.ErrQuote, 2, 5)
	refused(t, "[a]\nx=\"\\q\"", api.ErrQuote, 2, 4)
	refused(t, "[a]\né = 1", api.ErrName, 2, 1)
	for _, c := range []string{"1", ".", "-", "=", "]", "\"", "é", "\\", "@", "`", "{", "/", ":", "^", "\u00a0", "\u212a", "\ufffd", "\ufeff", "\x7f"} {
		refused(t, " \t"+c+"x = 1", api.ErrName, 1, 3)
		refused(t, "[a]\n"+c, api.ErrName, 2, 1)
	}
	refused(t, "[a]\n "+long+" = 1", api.ErrName, 2, 2)
	refused(t, "# c\n  x = 1", api.ErrOrphan, 2, 3)
	refused(t, "x", api.ErrOrphan, 1, 1)
	refused(t, "[a]\nx", api.ErrEqual, 2, 2)
	refused(t, "[a]\nx \t", api.ErrEqual, 2, 4)
	refused(t, "[a]\nxé=1", api.ErrEqual, 2, 2)
	refused(t, "[a]\nx # = 1", api.ErrEqual, 2, 3)
	refused(t, "[a]\nx: 1", api.ErrEqual, 2, 2)
	refused(t, "[a]\nx=\"1\"2", api.ErrQuote, 2, 6)
	refused(t, "[a]\nx=\"é\" \t\"2\"", api.ErrQuote, 2, 8)
	refused(t, "[a]\nx=1\n X = 2", api.ErrAgain, 3, 2)
	refused(t, "[a]\nab.C-d=1\ny=1\nAB.c-D=", api.ErrAgain, 4, 1)
}

// P7.1: of a line, the first in the order of the list; of several, the first line; ahead of all, what may not stand.
func TestWhichFaultComesFirst(t *testing.T) {
	long, much := strings.Repeat("n", 33), strings.Repeat("v", 1025)
	full := "[a]\n"
	for _, n := range numbered("e", api.MaxEntries) {
		full += n + "=1\n"
	}
	var heads string
	for _, n := range numbered("s", api.MaxSections) {
		heads += "[" + n + "]\n"
	}
	rows := []struct {
		text      string
		want      api.Errno
		line, col int
	}{
		{"[" + long + " x", api.ErrName, 1, 2},
		{"[a]\n[a x", api.ErrHead, 2, 4},
		{"[a]\n[a] x", api.ErrHead, 2, 5},
		{heads + "[s0]", api.ErrAgain, 65, 2},
		{heads + "[new", api.ErrHead, 65, 5},
		{heads + " [ new ]", api.ErrBulk, 65, 4},
		{long, api.ErrName, 1, 1},
		{"x y", api.ErrOrphan, 1, 1},
		{"x=\"", api.ErrOrphan, 1, 1},
		{"[a]\nx=1\nx", api.ErrEqual, 3, 2},
		{"[a]\nx=\"\\q", api.ErrQuote, 2, 3},
		{"[a]\nx=\"\\q\" y", api.ErrQuote, 2, 4},
		{"[a]\nx=1\nx=\"1\" y", api.ErrQuote, 3, 7},
		{"[a]\nx=1\nx=\"\\q\"", api.ErrQuote, 3, 4},
		{"[a]\nx=1\nx=\"", api.ErrQuote, 3, 3},
		{"[a]\nx=1\nx=" + much, api.ErrAgain, 3, 1},
		{full + "e0=1", api.ErrAgain, 66, 1},
		{full + "e0=" + much, api.ErrAgain, 66, 1},
		{full + "new=\"1\" y", api.ErrQuote, 66, 9},
		{full + " new = " + much, api.ErrBulk, 66, 2},
		{"[a]\nx=\"" + much + "\" y", api.ErrQuote, 2, 1031},
		{"[a]\nx = \"" + much + "\\q\"", api.ErrQuote, 2, 1031},
		{"[a]\nx = " + much + "\n?", api.ErrBulk, 2, 5},
		{"?\n[", api.ErrName, 1, 1},
		{"# c\n\n[a]\nx\n[a]", api.ErrEqual, 4, 2},
		{"?\n[\n\x01", api.ErrRune, 3, 1},
		{"?\x01", api.ErrRune, 1, 2},
		{long + "\xff", api.ErrRune, 1, 34},
		{"x\n\xff\x01", api.ErrRune, 2, 1},
		{"x\n\x01\xff", api.ErrRune, 2, 1},
		{"a\rb\n\x01", api.ErrRune, 1, 2},
		{strings.Repeat("\xff", api.MaxRoster+1), api.ErrLong, 0, 0},
	}
	for _, r := range rows {
		refused(t, r.text, r.want, r.line, r.col)
	}
}

// P7.1: which characters below 128 may stand, wherever it is.
func TestCharactersThatMayStand(t *testing.T) {
	places := []string{"# é%s", "[a]\nx = 1%s1", "[a]\nx = \"é%s\"", "[a]\n%s"}
	for c := range 128 {
		for _, place := range places {
			text := fmt.Sprintf(place, string(rune(c)))
			before, _, _ := strings.Cut(place, "%s")
			line, col := 1+strings.Count(before, "\n"), 1+utf8.RuneCountInString(before[strings.LastIndex(before, "\n")+1:])
			_, err, at := roster.Parse(text)
			may := c >= 32 || c == 9 || c == 10
			if !may && (err != api.ErrRune || at != (api.Spot{Line: line, Col: col})) || may && err == api.ErrRune {
				t.Errorf("%q: %d at %v", text, err, at)
			}
		}
	}
}

// P7.1: bytes that are no UTF-8, as Go's range reads it.
func TestBytesThatAreNoUTF8(t *testing.T) {
	for _, b := range []string{"\x80", "\xbf", "\xc0\x80", "\xc1\xbf", "\xc3", "\xc3(", "\xe2\x82", "\xe2(\xa1", "\xed\xa0\x80", "\xed\xbf\xbf", "\xe0\x80\x80", "\xf0\x9f\x98", "\xf0\x80\x80\x80", "\xf4\x90\x80\x80", "\xf5\x80\x80\x80", "\xfe", "\xff", "\xef\xbf"} {
		refused(t, b, api.ErrRune, 1, 1)
		refused(t, "# \ufffdé\n;é\ufffd"+b, api.ErrRune, 2, 4)
		refused(t, "[a]\r\nx = \"\U0001f600"+b+"\"", api.ErrRune, 2, 7)
	}
	for _, s := range []string{"\ufffd", "\ufffe", "\uffff", "\u0080", "\u0085", "\u07ff", "\u0800", "\ud7ff", "\ue000", "\U00010000", "\U0010ffff"} {
		reads(t, "# "+s+"\n[a]\nx="+s+"\ny=\""+s+"\"", sec("a", "x", s, "y", s))
	}
}

// P7.1: lines that end by 10, by 13 and 10, and by the text's end; a byte 13 elsewhere.
func TestLineEnds(t *testing.T) {
	for _, end := range []string{"\n", "\r\n"} {
		for _, last := range []string{"", end, end + end} {
			reads(t, strings.Join([]string{"[a] ", "", "x = 1 ", "# c", `y="2" `}, end)+last, sec("a", "x", "1", "y", "2"))
		}
		refused(t, "[a"+end, api.ErrHead, 1, 3)
		refused(t, "[a]"+end+"x"+end, api.ErrEqual, 2, 2)
		refused(t, "[a]"+end+end+"x = \""+end, api.ErrQuote, 3, 5)
		refused(t, "[a]"+end+"é\x00", api.ErrRune, 2, 2)
		refused(t, "["+end, api.ErrName, 1, 2)
	}
	reads(t, "[a]\r\nx=1\ny=2\r\n", sec("a", "x", "1", "y", "2"))
	refused(t, "\r", api.ErrRune, 1, 1)
	refused(t, "a\r", api.ErrRune, 1, 2)
	refused(t, "a\r\r\n", api.ErrRune, 1, 2)
	refused(t, "é\rb\n", api.ErrRune, 1, 2)
	refused(t, "\r\n\n# c\r", api.ErrRune, 3, 4)
	refused(t, "\n\r", api.ErrRune, 2, 1)
	refused(t, "[a]\nx=\"\r\"", api.ErrRune, 2, 4)
	refused(t, "[a]\nx=\"1\n\"", api.ErrQuote, 2, 3)
}

// P7.1: names with capital letters are those with small ones, and are told small.
func TestCapitalLetters(t *testing.T) {
	const all = "ABCDEFGHIJKLMNOPQRSTUVWXYZ"
	reads(t, "["+all+"]\n"+all+"_.-0 = "+all, sec(strings.ToLower(all), strings.ToLower(all)+"_.-0", all))
	refused(t, "["+all+"]\n["+strings.ToLower(all)+"]", api.ErrAgain, 2, 2)
	refused(t, "[a]\n"+all+"=\n"+strings.ToLower(all)+"=", api.ErrAgain, 3, 1)
	reads(t, "[a]\nX=1\n[b]\nx=2", sec("a", "x", "1"), sec("b", "x", "2"))
}

// P7.1, 'Bound and counters': each limit at its bound, and one above.
func TestLimitsOfParse(t *testing.T) {
	name := strings.Repeat("n", api.MaxKeyName)
	reads(t, "["+name+"]\n"+name+"=1", sec(name, name, "1"))
	refused(t, "["+name+"N]", api.ErrName, 1, 2)
	refused(t, "[a]\n"+name+"N=1", api.ErrName, 2, 1)

	for _, c := range []string{"v", "é", "€", "\U0001f600"} {
		most := strings.Repeat(c, api.MaxValue/len(c)) + strings.Repeat("w", api.MaxValue%len(c))
		reads(t, "[a]\nx= "+most+"  ", sec("a", "x", most))
		reads(t, "[a]\nx= \""+most+"\"  ", sec("a", "x", most))
		refused(t, "[a]\nx= "+most+"w", api.ErrBulk, 2, 4)
		refused(t, "[a]\nx= \""+most+"w\"", api.ErrBulk, 2, 4)
	}
	for _, e := range []string{`\n`, `\u{e9}`, `\u{1f600}`, `\"`} {
		one := len(read(t, "[a]\nx=\""+e+"\"")[0].Entries[0].Value)
		most := strings.Repeat(e, api.MaxValue/one)
		reads(t, "[a]\nx=\""+most+"\"", sec("a", "x", strings.Repeat(read(t, "[a]\nx=\""+e+"\"")[0].Entries[0].Value, api.MaxValue/one)))
		refused(t, "[a]\nx=\""+most+e+"\"", api.ErrBulk, 2, 3)
	}

	var heads, entries string
	var want []api.Section
	for _, n := range numbered("s", api.MaxSections) {
		heads += "[" + n + "]\n"
		want = append(want, sec(n))
	}
	reads(t, heads, want...)
	refused(t, heads+"[t]\n", api.ErrBulk, 65, 2)

	full := api.Section{Name: "a"}
	for _, n := range numbered("e", api.MaxEntries) {
		entries += n + "=1\n"
		full.Entries = append(full.Entries, api.Entry{Name: n, Value: "1"})
	}
	reads(t, "[a]\n"+entries, full)
	refused(t, "[a]\n"+entries+"f=1\n", api.ErrBulk, 66, 1)
	reads(t, "[a]\n"+entries+"[b]\n"+entries, full, api.Section{Name: "b", Entries: full.Entries})

	reads(t, "#"+strings.Repeat("x", api.MaxRoster-1))
	refused(t, "#"+strings.Repeat("x", api.MaxRoster), api.ErrLong, 0, 0)
	reads(t, "#"+strings.Repeat("é", api.MaxRoster/2-1)+"\n")
	refused(t, strings.Repeat("?", api.MaxRoster+1), api.ErrLong, 0, 0)
	refused(t, strings.Repeat("\n", api.MaxRoster-1)+"?", api.ErrName, api.MaxRoster, 1)
	refused(t, strings.Repeat(" ", api.MaxRoster-1)+"?", api.ErrName, 1, api.MaxRoster)
	refused(t, strings.Repeat(`\`, api.MaxRoster), api.ErrName, 1, 1)
	refused(t, "[a]\nx=\""+strings.Repeat(`\`, api.MaxRoster-8), api.ErrQuote, 2, 3)
	refused(t, "[a]\nx="+strings.Repeat(`"`, api.MaxRoster-7), api.ErrQuote, 2, 5)
}
