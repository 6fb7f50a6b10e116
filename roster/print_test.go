package roster_test

import (
	"math/rand"
	"strconv"
	"strings"
	"testing"

	"sluice/api"
	"sluice/roster"
)

// prints wants this text, which is read as the sections again.
func prints(t *testing.T, want string, ss ...api.Section) {
	t.Helper()
	text, err := roster.Print(ss...)
	if text != want || err != api.OK || !roster.Valid(ss...) {
		t.Errorf("Print(%.120v): %q, %d, %v; not %q", ss, text, err, roster.Valid(ss...), want)
	}
	if again, err, _ := roster.Parse(text); !same(again, ss) || err != api.OK {
		t.Errorf("Print(%.120v), read again: %v, %d", ss, again, err)
	}
}

// printRefused wants no text, and this error.
func printRefused(t *testing.T, want api.Errno, ss ...api.Section) {
	t.Helper()
	if text, err := roster.Print(ss...); text != "" || err != want || roster.Valid(ss...) {
		t.Errorf("Print(%.120v): %q, %d, %v; not %d", ss, text, err, roster.Valid(ss...), want)
	}
}

// P7.2, example 3.
func TestPrint(t *testing.T) {
	prints(t, "")
	prints(t, "[a]\n", sec("a"))
	prints(t, "[a]\nx = \" 1\"\ny = \"\"\n\n[b]\n", sec("a", "x", " 1", "y", ""), sec("b"))
	prints(t, "[_a.b-9]\n_ = 1\nx.y-z_0 = 2\n\n[b]\n\n[c]\n_ = 3\n", sec("_a.b-9", "_", "1", "x.y-z_0", "2"), sec("b"), sec("c", "_", "3"))
	if text, err := roster.Print(nil...); text != "" || err != api.OK || !roster.Valid(nil...) {
		t.Errorf("nothing: %q %d", text, err)
	}
}

// P7.2: which values are bare, and how the others are quoted.
func TestPrintedValues(t *testing.T) {
	for value, want := range map[string]string{
		"": `""`, " ": `" "`, "1": "1", " 1": `" 1"`, "1 ": `"1 "`, "a b": "a b", "a\tb": `"a\tb"`, "\t": `"\t"`, "a\n": `"a\n"`, "\r": `"\r"`, "\r\n": `"\r\n"`, "a\rb": `"a\rb"`,
		`"`: `"\""`, `"a"`: `"\"a\""`, `a"b"`: `a"b"`, `\`: `\`, `\n`: `\n`, `a\`: `a\`, `\"`: `\"`, " \\\"": `" \\\""`, "\\\n\"\t'": `"\\\n\"\t'"`, `" \`: `"\" \\"`,
		"#": "#", "; x": "; x", "a # b": "a # b", "=": "=", "[x]": "[x]", "é": "é", " é": `" é"`, "\u00a0": "\u00a0", "\u007f": "\u007f", "\ufffd": "\ufffd", "\u2028 ": "\"\u2028 \"", "\U0010ffff": "\U0010ffff", "'": "'",
	} {
		prints(t, "[a]\nx = "+want+"\n", sec("a", "x", value))
	}
}

// P7.2: names that are none.
func TestNamesThatAreNone(t *testing.T) {
	bad := []string{"", "1", ".", "-", "9a", ".a", "-a", "A", "aB", "Z", "a b", " a", "a ", "é", "aé", "a=b", "[a", "a]", "a\n", "\n", "a\x00", "\xff", "a\xff", "\ufffd", "\u212a", "a,b", "a:b", "a/b", "a`", "a{", "a@", "a\"", "#", ";", strings.Repeat("n", 33), strings.Repeat("n", 1<<20)}
	for _, name := range bad {
		printRefused(t, api.ErrName, sec(name))
		printRefused(t, api.ErrName, sec("a", name, "1"))
	}
	name := strings.Repeat("n", 32)
	prints(t, "["+name+"]\n"+name+" = 1\n", sec(name, name, "1"))
}

// P7.2: values with characters that may not stand.
func TestCharactersOfValues(t *testing.T) {
	for c := range 128 {
		ss := list(sec("a", "x", "é"+string(rune(c))))
		if c >= 32 || c == 9 || c == 10 || c == 13 {
			if text, err := roster.Print(ss...); err != api.OK || !same(read(t, text), ss) {
				t.Errorf("the character %d: %q, %d", c, text, err)
			}
		} else {
			printRefused(t, api.ErrRune, ss...)
		}
	}
	for _, b := range []string{"\x80", "\xc0\x80", "\xc3", "\xc3(", "\xe2\x82", "\xed\xa0\x80", "\xf0\x9f\x98", "\xf4\x90\x80\x80", "\xff", "\xef\xbf"} {
		printRefused(t, api.ErrRune, sec("a", "x", b))
		printRefused(t, api.ErrRune, sec("a", "x", "\ufffd "+b+" \ufffd"))
	}
}

// P7.2: which error comes first.
func TestWhichErrorOfPrint(t *testing.T) {
	var most []api.Section
	for _, n := range numbered("s", api.MaxSections) {
		most = append(most, sec(n))
	}
	var full api.Section
	full.Name = "a"
	for _, n := range numbered("e", api.MaxEntries) {
		full.Entries = append(full.Entries, api.Entry{Name: n})
	}
	more := func(name, value string) api.Section {
		return api.Section{Name: "a", Entries: append(full.Entries[:64:64], api.Entry{Name: name, Value: value})}
	}
	much := strings.Repeat("\xff", 1025)
	heavy := api.Section{Name: "heavy"}
	for _, e := range full.Entries {
		heavy.Entries = append(heavy.Entries, api.Entry{Name: e.Name, Value: strings.Repeat("\n", 1024)})
	}
	rows := []struct {
		want api.Errno
		ss   []api.Section
	}{
		{api.ErrAgain, list(sec("a"), sec("b"), sec("a"))},
		{api.ErrAgain, list(sec("a"), sec("a", "1", "\xff"))},
		{api.ErrName, list(sec("a"), sec("A"), sec("a"))},
		{api.ErrName, list(sec("a", "X", ""), sec("a"))},
		{api.ErrRune, list(sec("a", "x", "\xff", "x", ""), sec("1"))},
		{api.ErrAgain, list(sec("a", "x", "", "y", "", "x", much))},
		{api.ErrAgain, list(sec("a", "x", "", "x", "\xff"))},
		{api.ErrName, list(sec("a", "x", "", "X", much))},
		{api.ErrBulk, list(sec("a", "x", much))},
		{api.ErrBulk, list(sec("a", "x", strings.Repeat("v", 1025)))},
		{api.ErrBulk, append(most[:64:64], sec("t"))},
		{api.ErrBulk, append(most[:64:64], sec("t", "1", ""))},
		{api.ErrAgain, append(most[:64:64], sec("s0"))},
		{api.ErrName, append(most[:64:64], sec("S0"))},
		{api.ErrName, append(most[:63:63], sec("S0"), sec("u"), sec("v"))},
		{api.ErrBulk, append(most[:64:64], sec("t"), sec("t"), sec("1"))},
		{api.ErrBulk, list(more("new", ""))},
		{api.ErrBulk, list(more("new", "\xff"))},
		{api.ErrAgain, list(more("e0", "\xff"))},
		{api.ErrName, list(more("E0", much))},
		{api.ErrBulk, list(heavy)},
		{api.ErrRune, list(heavy, sec("b", "x", "\xff"))},
		{api.ErrName, list(heavy, sec(""))},
		{api.ErrAgain, list(heavy, sec("heavy"))},
	}
	for _, r := range rows {
		printRefused(t, r.want, r.ss...)
	}
	if !roster.Valid(most...) || !roster.Valid(full) || !roster.Valid(sec("a", "x", strings.Repeat("v", 1024))) {
		t.Error("as many as there may be")
	}
	if !roster.Valid(sec("a", "x", ""), sec("b", "x", "")) {
		t.Error("one name in two sections")
	}
}

// P7.2: the longest text, and one byte more.
func TestLongestPrint(t *testing.T) {
	for _, fill := range []string{strings.Repeat("w", 700), strings.Repeat("\n", 300), strings.Repeat("é", 350)} {
		ss := list(sec("last", "x", "v"))
		for n := 0; roster.Valid(ss...); n++ {
			if n%api.MaxEntries == 0 {
				ss = append(ss, sec("s"+strconv.Itoa(n)))
			}
			s := &ss[len(ss)-1]
			s.Entries = append(s.Entries, api.Entry{Name: "e" + strconv.Itoa(n), Value: fill})
		}
		s := &ss[len(ss)-1]
		s.Entries = s.Entries[:len(s.Entries)-1] // the one too many
		text, _ := roster.Print(ss...)
		ss[0].Entries[0].Value += strings.Repeat("v", api.MaxRoster-len(text))
		text, err := roster.Print(ss...)
		if len(text) != api.MaxRoster || err != api.OK || !roster.Valid(ss...) || !same(read(t, text), ss) {
			t.Errorf("the longest: %d bytes, %d", len(text), err)
		}
		ss[0].Entries[0].Value += "v"
		printRefused(t, api.ErrBulk, ss...)
	}
}

// P7.3: what Parse gives is valid but for the length of its print.
func TestPrintThatIsLonger(t *testing.T) {
	text := "[a]\n"
	for _, n := range numbered("e", 64) {
		text += n + "=" + strings.Repeat("a\t", 500) + "b\n"
	}
	text += "[b]\n"
	for _, n := range numbered("e", 60) {
		text += n + "=" + strings.Repeat("a\t", 500) + "b\n"
	}
	ss := read(t, text)
	printRefused(t, api.ErrBulk, ss...)
	if !roster.Valid(ss[0]) || !roster.Valid(ss[1]) {
		t.Error("each of the two is short enough")
	}
}

// anyValue is a value of characters that may stand.
func anyValue(r *rand.Rand) string {
	var b strings.Builder
	for range r.Intn(7) {
		b.WriteString(pick(r, []string{" ", "\t", "\n", "\r", "\\", "\"", "#", ";", "a", "=", "é", "\ufffd", "\U0001f600", "n", "u{9}", "[", "]"}))
	}
	return b.String()
}

func anySections(r *rand.Rand) []api.Section {
	var ss []api.Section
	for _, n := range numbered(pick(r, []string{"s", "_", "a.b-"}), r.Intn(5)) {
		s := api.Section{Name: n}
		for _, e := range numbered(pick(r, []string{"e", "x.", "_-"}), r.Intn(5)) {
			s.Entries = append(s.Entries, api.Entry{Name: e, Value: anyValue(r)})
		}
		ss = append(ss, s)
	}
	return ss
}

// P7.3: printed and read again; and that print, printed again, is the same.
func TestParseOfPrint(t *testing.T) {
	r := dice(3)
	for range 20000 {
		ss := anySections(r)
		text, err := roster.Print(ss...)
		if err != api.OK || !roster.Valid(ss...) {
			t.Fatalf("Print(%q): %d", ss, err)
		}
		again, err, _ := roster.Parse(text)
		if err != api.OK || !same(again, ss) {
			t.Fatalf("Print(%q): %q, read again %q, %d", ss, text, again, err)
		}
		if text2, _ := roster.Print(again...); text2 != text {
			t.Fatalf("%q, printed again %q", text, text2)
		}
	}
}
