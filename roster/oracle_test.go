package roster_test

import (
	"regexp"
	"slices"
	"strconv"
	"strings"
	"testing"
	"unicode/utf8"

	"sluice/api"
	"sluice/roster"
)

// A second reading of P7.1, by its words: of each line all that its list names is looked at, one behind the other, with patterns of bytes.

var (
	blanksPattern  = regexp.MustCompile(`^[ \t]*`)
	namePattern    = regexp.MustCompile(`^[A-Za-z_][A-Za-z0-9_.-]*`)
	restPattern    = regexp.MustCompile(`^[ \t]*([#;].*)?$`)
	quotedPattern  = regexp.MustCompile(`^"((?:[^"\\]|\\.)*)"`)
	escapePattern  = regexp.MustCompile(`\\(?:u\{([0-9a-fA-F]{1,6})\}|.)`)
	simpleEscapes  = map[string]string{`\\`: `\`, `\"`: `"`, `\n`: "\n", `\t`: "\t", `\r`: "\r"}
	tailOfBlanks   = regexp.MustCompile(`[ \t]*$`)
	smallOfCapital = func(s string) string {
		return strings.Map(func(r rune) rune {
			if r >= 'A' && r <= 'Z' {
				return r + 32
			}
			return r
		}, s)
	}
)

type second struct {
	ss   []api.Section
	line string
	code api.Errno
	at   int // the byte of the line
}

// may keeps the first fault that is told of a line.
func (o *second) may(bad bool, code api.Errno, at int) bool {
	if bad && o.code == api.OK {
		o.code, o.at = code, at
	}
	return bad
}

func (o *second) read(line string) {
	o.line = line
	at := len(blanksPattern.FindString(line))
	rest := line[at:]
	switch {
	case restPattern.MatchString(rest):
	case rest[0] == '[':
		o.head(at + 1)
	case namePattern.MatchString(rest):
		o.entry(at)
	default:
		o.may(true, api.ErrName, at)
	}
}

func (o *second) head(at int) {
	at += len(blanksPattern.FindString(o.line[at:]))
	name := namePattern.FindString(o.line[at:])
	if o.may(name == "", api.ErrName, at) {
		return
	}
	o.may(len(name) > 32, api.ErrName, at)
	behind := at + len(name)
	behind += len(blanksPattern.FindString(o.line[behind:]))
	if o.may(!strings.HasPrefix(o.line[behind:], "]"), api.ErrHead, behind) {
		return
	}
	behind++
	o.may(!restPattern.MatchString(o.line[behind:]), api.ErrHead, behind+len(blanksPattern.FindString(o.line[behind:])))
	name = smallOfCapital(name)
	o.may(slices.ContainsFunc(o.ss, func(s api.Section) bool { return s.Name == name }), api.ErrAgain, at)
	o.may(len(o.ss) >= 64, api.ErrBulk, at)
	o.ss = append(o.ss, api.Section{Name: name})
}

func (o *second) entry(at int) {
	name := namePattern.FindString(o.line[at:])
	o.may(len(name) > 32, api.ErrName, at)
	if o.may(len(o.ss) == 0, api.ErrOrphan, at) {
		return
	}
	behind := at + len(name)
	behind += len(blanksPattern.FindString(o.line[behind:]))
	if o.may(!strings.HasPrefix(o.line[behind:], "="), api.ErrEqual, behind) {
		return
	}
	behind++
	begin := behind + len(blanksPattern.FindString(o.line[behind:]))
	value := o.value(begin)
	last := &o.ss[len(o.ss)-1]
	name = smallOfCapital(name)
	o.may(slices.ContainsFunc(last.Entries, func(e api.Entry) bool { return e.Name == name }), api.ErrAgain, at)
	o.may(len(last.Entries) >= 64, api.ErrBulk, at)
	o.may(len(value) > 1024, api.ErrBulk, begin)
	last.Entries = append(last.Entries, api.Entry{Name: name, Value: value})
}

func (o *second) value(begin int) string {
	rest := o.line[begin:]
	if !strings.HasPrefix(rest, `"`) {
		return tailOfBlanks.ReplaceAllString(rest, "")
	}
	m := quotedPattern.FindStringSubmatch(rest)
	if o.may(m == nil, api.ErrQuote, begin) {
		return ""
	}
	var value strings.Builder
	done := 0
	for _, e := range escapePattern.FindAllStringSubmatchIndex(m[1], -1) {
		value.WriteString(m[1][done:e[0]])
		text, ok := simpleEscapes[m[1][e[0]:e[1]]]
		if e[2] >= 0 {
			n, _ := strconv.ParseInt(m[1][e[2]:e[3]], 16, 64)
			ok = (n > 31 || n == 9 || n == 10 || n == 13) && n < 0x110000 && (n < 0xd800 || n > 0xdfff)
			text = string(rune(n))
		}
		o.may(!ok, api.ErrQuote, begin+1+e[0])
		value.WriteString(text)
		done = e[1]
	}
	value.WriteString(m[1][done:])
	behind := begin + len(m[0])
	o.may(!restPattern.MatchString(o.line[behind:]), api.ErrQuote, behind+len(blanksPattern.FindString(o.line[behind:])))
	return value.String()
}

// badByte tells the first byte of a character that may not stand, or -1.
func badByte(text string) int {
	for i := 0; i < len(text); {
		r, w := utf8.DecodeRuneInString(text[i:])
		lonely := r == 13 && (i+1 == len(text) || text[i+1] != 10)
		if r == utf8.RuneError && w == 1 || r < 32 && r != 9 && r != 10 && r != 13 || lonely {
			return i
		}
		i += w
	}
	return -1
}

// byWords is the second reading.
func byWords(text string) ([]api.Section, api.Errno, api.Spot) {
	if len(text) > 131072 {
		return nil, api.ErrLong, api.Spot{}
	}
	if bad := badByte(text); bad >= 0 {
		begin := strings.LastIndexByte(text[:bad], 10) + 1
		return nil, api.ErrRune, api.Spot{Line: 1 + strings.Count(text[:bad], "\n"), Col: 1 + utf8.RuneCountInString(text[begin:bad])}
	}
	var o second
	for i, line := range strings.Split(strings.ReplaceAll(text, "\r\n", "\n"), "\n") {
		if o.read(line); o.code != api.OK {
			return nil, o.code, api.Spot{Line: i + 1, Col: 1 + utf8.RuneCountInString(line[:o.at])}
		}
	}
	return o.ss, api.OK, api.Spot{}
}

// P7.1 and P7.3: texts of all sorts are read alike by both; what is read is valid, and its print is read as the same.
func TestParseBesideTheSecondReading(t *testing.T) {
	long := strings.Repeat("q", 32)
	pieces := []string{"[", "]", "[a]", "[b]", "[ C ]", "\n", "\n", "\n", "\r\n", "=", "=", "x", "y", "Z", "x=", "y = ", "\n[a]\nx=", "\nZ=\"", "\"", "\"", "\\", "\\\\", "\\\"", "\\n", "\\q", "\\u{", "\\u{e9}", "\\u{d800}", "\\u{9}", "\\u{1}", "}", " ", " ", "\t", "#", ";", "é", "\U0001f600", "\ufffd", "1", "_", ".", "-", long, strings.Repeat("w", 1022), "€"}
	rare := []string{"\r", "\x00", "\x1f", "\xff", "\xc3", "\x7f"}
	r := dice(7)
	right := map[api.Errno]int{}
	for range 300000 {
		var b strings.Builder
		if r.Intn(3) > 0 {
			b.WriteString("[s]\n")
		}
		for range r.Intn(14) {
			if r.Intn(60) == 0 {
				b.WriteString(pick(r, rare))
			}
			b.WriteString(pick(r, pieces))
		}
		text := b.String()
		ss, err, at := roster.Parse(text)
		ss2, err2, at2 := byWords(text)
		if !same(ss, ss2) || err != err2 || at != at2 {
			t.Fatalf("Parse(%q): %v, %d at %v; by the words %v, %d at %v", text, ss, err, at, ss2, err2, at2)
		}
		right[err]++
		if err == api.OK {
			printed, bad := roster.Print(ss...)
			again, err, _ := roster.Parse(printed)
			if bad != api.OK || !roster.Valid(ss...) || err != api.OK || !same(ss, again) {
				t.Fatalf("Print of what %q gives: %q, %d; read again %v, %d", text, printed, bad, again, err)
			}
		}
	}
	for _, code := range []api.Errno{api.OK, api.ErrRune, api.ErrHead, api.ErrName, api.ErrEqual, api.ErrQuote, api.ErrAgain, api.ErrOrphan, api.ErrBulk} {
		if right[code] < 100 {
			t.Errorf("only %d texts with the error %d", right[code], code)
		}
	}
}
