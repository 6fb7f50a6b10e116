package quay_test

import (
	"math"
	"math/big"
	"math/rand"
	"regexp"
	"slices"
	"strconv"
	"strings"
	"testing"

	"sluice/api"
	"sluice/quay"
)

// A second reading of P8.1 and P8.2, by the chapter's words: of each line all that its list names is looked at, one behind the other, with patterns and numbers of any size.

var (
	integerPattern = regexp.MustCompile(`^-?[0-9]{1,19}$`)
	vertexPattern  = regexp.MustCompile(`^[0-9]{1,19}$`)
	realPattern    = regexp.MustCompile(`^[+-]?(?:inf|(?:([0-9]+\.?[0-9]*|\.[0-9]+))(?:[eE]([+-]?[0-9]{1,4}))?)$`)
	fieldPattern   = regexp.MustCompile(`[^ \t]+`)
	titlePatterns  = []*regexp.Regexp{
		regexp.MustCompile(`^%%MatrixMarket$`), regexp.MustCompile(`^(?i:matrix)$`), regexp.MustCompile(`^(?i:coordinate)$`), regexp.MustCompile(`^(?i:pattern|integer|real)$`), regexp.MustCompile(`^(?i:general|symmetric)$`),
	}
)

type second struct {
	f      api.Format
	k      api.EdgeKind
	n      uint32 // 0: Head
	header api.Header
	titled bool
	headed bool
	told   int64
	edges  []api.Edge
	code   api.Errno // the first thing that was found wrong in a line
	col    int       // from 0 on
}

// may keeps the first fault that is found in a line.
func (o *second) may(bad bool, code api.Errno, col int) {
	if bad && o.code == api.OK {
		o.code, o.col = code, col
	}
}

func between(text string, lo, hi int64) bool {
	v, ok := new(big.Int).SetString(text, 10)
	return ok && v.Cmp(big.NewInt(lo)) >= 0 && v.Cmp(big.NewInt(hi)) <= 0
}

func wholeOf(text string) int64 {
	v, _ := new(big.Int).SetString(text, 10)
	return v.Int64()
}

// realOf: the bits, whether the text is a real, and whether it is in range.
func realOf(text string) (bits uint32, form, in bool) {
	m := realPattern.FindStringSubmatch(text)
	if m == nil {
		return 0, false, false
	}
	if m[1] == "" || len(strings.ReplaceAll(m[1], ".", "")) > 64 {
		return 0, true, false
	}
	if ten, _ := strconv.Atoi(m[2]); ten > 400 || ten < -400 {
		return 0, true, false
	}
	x, err := strconv.ParseFloat(text, 32)
	if err != nil {
		return 0, true, false
	}
	return math.Float32bits(float32(x)), true, true
}

// field is asked for by a word; the error that its text has.
func (o *second) wrong(word, text string) api.Errno {
	low := int64(0)
	if o.f != snap {
		low = 1
	}
	lo, hi := int64(1), int64(1<<31-1)
	if o.n != 0 {
		lo, hi = int64(o.n), int64(o.n)
	}
	_, form, in := realOf(text)
	isInt := integerPattern.MatchString(text)
	switch word {
	case "vertex":
		if !vertexPattern.MatchString(text) {
			return api.ErrToken
		}
		if !between(text, low, low+int64(o.n)-1) {
			return api.ErrNode
		}
	case "integer":
		if !isInt {
			return api.ErrToken
		}
	case "int32":
		if !isInt {
			return api.ErrToken
		}
		if !between(text, -1<<31, 1<<31-1) {
			return api.ErrScale
		}
	case "real":
		if !form {
			return api.ErrToken
		}
		if !in {
			return api.ErrScale
		}
	case "sp":
		if text != "sp" {
			return api.ErrHeader
		}
	case "N":
		if !isInt || !between(text, lo, hi) {
			return api.ErrHeader
		}
	case "M":
		if !isInt || !between(text, 0, 1<<40) {
			return api.ErrHeader
		}
	case "field":
		if strings.EqualFold(text, "real") && o.k == counted {
			return api.ErrScale
		}
	}
	return api.OK
}

// row looks at fields from left to right, then at those that are too many.
func (o *second) row(line string, code api.Errno, least int, words ...string) []string {
	var texts []string
	places := fieldPattern.FindAllStringIndex(line, -1)
	for i, word := range words {
		if i >= len(places) {
			o.may(i < least, code, len(line))
			continue
		}
		text := line[places[i][0]:places[i][1]]
		texts = append(texts, text)
		if strings.HasPrefix(word, "title") {
			which := int(word[5] - '0')
			o.may(!titlePatterns[which].MatchString(text), api.ErrHeader, places[i][0])
			if which == 3 {
				o.may(o.wrong("field", text) != api.OK, api.ErrScale, places[i][0])
			}
			continue
		}
		if word == "columns" {
			o.may(!integerPattern.MatchString(text) || !between(text, wholeOrNone(texts[0]), wholeOrNone(texts[0])), api.ErrHeader, places[i][0])
			continue
		}
		err := o.wrong(word, text)
		o.may(err != api.OK, err, places[i][0])
	}
	if len(places) > len(words) {
		o.may(true, code, places[len(words)][0])
	}
	return texts
}

func wholeOrNone(text string) int64 {
	if !integerPattern.MatchString(text) {
		return -1
	}
	return wholeOf(text)
}

func (o *second) line(number int, line string) {
	o.may(len(line) > 1024, api.ErrLong, 0)
	places := fieldPattern.FindAllStringIndex(line, -1)
	first, begin := "", 0
	if len(places) > 0 {
		begin = places[0][0]
		first = line[begin:places[0][1]]
	}
	empty := len(places) == 0
	switch {
	case o.code != api.OK:
	case o.f == snap:
		if !empty && line[0] != '#' {
			o.entry(line, begin, "")
		}
	case o.f == dimacs:
		if empty || first == "c" {
			return
		}
		o.may(first != "p" && first != "a", api.ErrLine, begin)
		o.may(first == "p" && o.headed || first == "a" && !o.headed, api.ErrHeader, begin)
		if o.code != api.OK {
			return
		}
		if first == "a" {
			o.entry(line, begin, "")
			return
		}
		texts := o.row(line, api.ErrHeader, 4, "any", "sp", "N", "M")
		if o.code == api.OK {
			o.header = api.Header{N: wholeOf(texts[2]), Edges: wholeOf(texts[3])}
			o.headed = true
		}
	case number == 1:
		texts := o.row(line, api.ErrHeader, 5, "title0", "title1", "title2", "title3", "title4")
		if o.code == api.OK {
			o.header = api.Header{Twice: strings.EqualFold(texts[4], "symmetric"), Field: strings.ToLower(texts[3])}
		}
	case empty || line[0] == '%':
	case !o.headed:
		texts := o.row(line, api.ErrHeader, 3, "N", "columns", "M")
		if o.code == api.OK {
			o.header.N, o.header.Edges = wholeOf(texts[0]), wholeOf(texts[2])
			o.headed = true
		}
	default:
		o.entry(line, begin, o.header.Field)
	}
}

func (o *second) entry(line string, begin int, field string) {
	o.may(o.headed && o.told == o.header.Edges, api.ErrCount, begin)
	o.told++
	words := []string{"vertex", "vertex"}
	if o.f == dimacs {
		words = []string{"any", "vertex", "vertex"}
	}
	switch {
	case field == "integer" && o.k == counted, field == "" && o.k == counted:
		words = append(words, "int32")
	case field == "integer":
		words = append(words, "integer")
	case field == "real", field == "" && o.k == real:
		words = append(words, "real")
	}
	least := len(words)
	if o.f == dimacs && o.k == plain {
		words = append(words, "integer")
	}
	texts := o.row(line, api.ErrToken, least, words...)
	if o.code != api.OK {
		return
	}
	if o.f == dimacs {
		texts = texts[1:]
	}
	low := int64(1)
	if o.f == snap {
		low = 0
	}
	e := api.Edge{Src: uint32(wholeOf(texts[0]) - low), Dst: uint32(wholeOf(texts[1]) - low)}
	o.may(o.header.Twice && e.Src < e.Dst, api.ErrLine, begin)
	if o.code != api.OK {
		return
	}
	switch {
	case o.k == counted && field == "pattern":
		e.W = 1
	case o.k == real && field == "pattern":
		e.W = math.Float32bits(1)
	case o.k == counted:
		e.W = uint32(int32(wholeOf(texts[2])))
	case o.k == real:
		e.W, _, _ = realOf(texts[2])
	}
	o.edges = append(o.edges, e)
	if o.header.Twice && e.Src != e.Dst {
		o.edges = append(o.edges, api.Edge{Src: e.Dst, Dst: e.Src, W: e.W})
	}
}

// readAgain reads a text of lines: the header, the edges, and what is wrong; of Head, only as far as the head.
func readAgain(f api.Format, k api.EdgeKind, n uint32, input string, headOnly bool) (api.Header, []api.Edge, api.Snag) {
	o := &second{f: f, k: k, n: n}
	var lines []string
	if input != "" {
		lines = strings.Split(strings.TrimSuffix(input, "\n"), "\n")
	}
	begin := 0
	for i, line := range lines {
		if headOnly && o.headed {
			break
		}
		o.line(i+1, strings.TrimSuffix(line, "\r"))
		if o.code != api.OK {
			return api.Header{}, o.edges, api.Snag{Code: o.code, Line: i + 1, Col: o.col + 1, At: begin + o.col}
		}
		begin += len(line) + 1
	}
	end := api.Snag{Line: len(lines) + 1, Col: 1, At: len(input)}
	switch {
	case f != snap && !o.headed:
		end.Code = api.ErrHeader
	case !headOnly && f != snap && o.told < o.header.Edges:
		end.Code = api.ErrCount
	default:
		return o.header, o.edges, api.Snag{}
	}
	return api.Header{}, o.edges, end
}

// anyField is a field of a line: mostly one that may stand there.
func anyField(r *rand.Rand, n uint32) string {
	if r.Intn(12) > 0 {
		return strconv.Itoa(1 + r.Intn(int(n)))
	}
	return pick(r, "0", "-1", "-0", "x", "#", "%", "a", "p", "c", "sp", "1.5", "-.5e1", "1e99", "inf", "+2", "007", "2147483647", "2147483648", "-2147483648", "-2147483649", "1099511627776", "1099511627777", "9999999999999999999", "10000000000000000000", "1e401", "1e12345", "\r", "1\r", strconv.Itoa(int(n)), strconv.Itoa(int(n)+1), "-", "1_0", "\x00", "3.4028236e38", strings.Repeat("0", 63)+"1", strings.Repeat("0", 64)+"1")
}

func anyRow(r *rand.Rand, n uint32, count int) string {
	if r.Intn(20) == 0 {
		count += r.Intn(4) - 2
	}
	line := pick(r, "", "", "", " ", "\t")
	for i := range max(count, 0) {
		if i > 0 {
			line += pick(r, " ", " ", "\t", "  ")
		}
		line += anyField(r, n)
	}
	return line + pick(r, "", "", "", " ", "\t ")
}

func anyEnd(r *rand.Rand) string { return pick(r, "\n", "\n", "\n", "\r\n", "\n\n", "\r\r\n") }

func anyIdle(r *rand.Rand, f api.Format) string {
	return pick(r, "", " ", "#", "# x", " #", "c", "c x", " c", "%", "% x", " %", "cx", strings.Repeat(" ", 1024), strings.Repeat(" ", 1025), map[api.Format]string{snap: "#", dimacs: "c", matrix: "%"}[f])
}

// anyInput is an input that is mostly right, for a graph of a few vertices.
func anyInput(r *rand.Rand, f api.Format, k api.EdgeKind, n uint32) string {
	if f == bin {
		return anyRecords(r, k, n)
	}
	entries := r.Intn(5)
	said := entries
	if r.Intn(8) == 0 {
		said += r.Intn(3) - 1
	}
	width := map[api.EdgeKind]int{plain: 2, counted: 3, real: 3}[k]
	var b strings.Builder
	b.WriteString(anyTop(r, f, n, said, &width))
	for range entries {
		if r.Intn(6) == 0 {
			b.WriteString(anyIdle(r, f) + anyEnd(r))
		}
		if r.Intn(60) == 0 {
			b.WriteString(anyTop(r, f, n, said, &width))
		}
		if f == dimacs {
			b.WriteString(pick(r, "a ", "a ", "a ", "a ", "a ", "a ", "a ", "a ", "a\t", " a ", "A ", "", "aa ", "p "))
		}
		b.WriteString(anyRow(r, n, width) + anyEnd(r))
	}
	input := b.String()
	if r.Intn(3) == 0 {
		input = strings.TrimSuffix(input, "\n")
	}
	if r.Intn(10) == 0 && len(input) > 0 {
		cut := r.Intn(len(input))
		input = input[:cut] + pick(r, "", " ", "\n", "x", "1", input[:r.Intn(len(input))]) + input[cut+pick(r, 0, 1):]
	}
	return input
}

// anyTop is what stands ahead of the entries; it says how many fields they have.
func anyTop(r *rand.Rand, f api.Format, n uint32, said int, width *int) string {
	top := ""
	for f != matrix && r.Intn(5) == 0 {
		top += anyIdle(r, f) + anyEnd(r)
	}
	number := func(v int) string {
		if r.Intn(30) == 0 {
			return anyField(r, n)
		}
		return strconv.Itoa(v)
	}
	switch f {
	case dimacs:
		if r.Intn(30) == 0 {
			return top
		}
		top += pick(r, "p sp ", "p sp ", "p sp ", "p sp ", "p sp ", "p sp ", "p sp ", " p\tsp ", "p SP ", "p max ", "P sp ", "p ") + number(int(n)) + " " + number(said) + pick(r, "", "", "", "", "", "", "", "", "", " ", " 1", "\tx") + anyEnd(r)
	case matrix:
		words := []string{"%%MatrixMarket", pick(r, "matrix", "MATRIX", "Matrix"), pick(r, "coordinate", "Coordinate"), pick(r, "pattern", "integer", "real", "Pattern", "INTEGER", "Real"), pick(r, "general", "symmetric", "General", "SYMMETRIC")}
		switch strings.ToLower(words[3]) {
		case "pattern":
			*width = 2
		default:
			*width = 3
		}
		if r.Intn(12) == 0 {
			words[r.Intn(5)] = pick(r, "", "x", "%%matrixmarket", "array", "complex", "hermitian", "pattern general", "real")
		}
		top += strings.Join(words, pick(r, " ", " ", "\t", "  ")) + pick(r, "", "", "", "", "", "", "", " ", " x") + anyEnd(r)
		for r.Intn(5) == 0 {
			top += anyIdle(r, f) + anyEnd(r)
		}
		top += number(int(n)) + " " + number(int(n)) + " " + number(said) + pick(r, "", "", "", "", "", "", "", "", " ", " 1") + anyEnd(r)
	}
	return top
}

func anyRecords(r *rand.Rand, k api.EdgeKind, n uint32) string {
	var us []uint32
	for range r.Intn(6) {
		us = append(us, anyVertex(r, n), anyVertex(r, n))
		if k != plain {
			us = append(us, pick[uint32](r, one, half, 0, minus, greatest))
		}
	}
	if len(us) > 0 && r.Intn(2) == 0 {
		us[r.Intn(len(us))] = pick[uint32](r, n, infinite, nan, 1<<32-1, 0)
	}
	return numbers(us...) + pick(r, "", "", "", "\x00", "\x00\x00\x00\x00", "xxxxxxx")
}

// P8.1, P8.2: both readings tell the same of inputs of all sorts.
func TestSecondReading(t *testing.T) {
	r := dice(1)
	seen := map[api.Errno]int{}
	for range 300000 {
		f, k, n := pick(r, snap, dimacs, matrix), pick(r, kinds()...), uint32(1+r.Intn(5))
		input := anyInput(r, f, k, n)
		edges, snag := told(t, f, k, n, input)
		_, wantEdges, want := readAgain(f, k, n, input, false)
		if snag != want || !slices.Equal(edges, wantEdges) {
			t.Fatalf("Edges(%d, %d, %d, %q): %v, %v, want %v, %v", f, k, n, input, edges, snag, wantEdges, want)
		}
		seen[snag.Code]++
		if f == snap {
			continue
		}
		head, snag := quay.Head(f, k, input)
		wantHead, _, want := readAgain(f, k, 0, input, true)
		if head != wantHead || snag != want {
			t.Fatalf("Head(%d, %d, %q): %v, %v, want %v, %v", f, k, input, head, snag, wantHead, want)
		}
	}
	for _, err := range []api.Errno{api.OK, api.ErrLong, api.ErrHeader, api.ErrLine, api.ErrToken, api.ErrNode, api.ErrScale, api.ErrCount} {
		if seen[err] < 1000 {
			t.Errorf("only %d inputs with %v", seen[err], err)
		}
	}
}
