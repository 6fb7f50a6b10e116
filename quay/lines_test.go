package quay_test

import (
	"strings"
	"testing"

	"sluice/api"
)

// P8.2, lines: how they end, and which line and byte is meant then.
func TestLinesEnds(t *testing.T) {
	want := list(edge(1, 2, 0), edge(3, 4, 0))
	for _, input := range []string{"1 2\n3 4", "1 2\n3 4\n", "1 2\r\n3 4\r\n", "1 2\r\n3 4\r", "\n1 2\n\n3 4\n\n", "\r\n1 2\n\r\n3 4\r\n\r", "1 2\n3 4\n\n\n"} {
		is(t, snap, plain, 5, input, want, right())
	}
	for _, c := range []struct {
		input     string
		line, col int
	}{
		{"1 2\n3 4\nx", 3, 1},
		{"1 2\r\n3 4\r\n\r\nx\r\n", 4, 1},
		{"\n1 2\n\n\n3 4\n \tx", 6, 3},
		{"1 2\n3 4\n1 2\r\r\n", 3, 3}, // one \r counts, as a byte of a field
		{"1 2\n3 4\n1 2\rx\n", 3, 3},
		{"1 2\n3 4\n\r\r", 3, 1},
		{"1 2\n3 4\n1\r", 3, 2}, // missing: behind the line's last byte, which the \r is not
		{"1 2\n3 4\n1\r\n", 3, 2},
		{"1 2\n3 4\n1 \t \r\n", 3, 5},
		{"1 2\n3 4\n1 2\v", 3, 3},
		{"1 2\n3 4\n1\x002", 3, 1},
		{"1 2\n3 4\n1\u00a02", 3, 1},
	} {
		is(t, snap, plain, 5, c.input, want, at(c.input, api.ErrToken, c.line, c.col))
	}
}

// P8.2, lines: blanks and tabs, around fields and alone.
func TestLinesBlanks(t *testing.T) {
	is(t, snap, plain, 5, " \t1\t \t2\t\n \t \n3 4 ", list(edge(1, 2, 0), edge(3, 4, 0)), right())
	is(t, dimacs, counted, 5, "\tc x\n \n p\tsp  5\t1 \n\ta 1  5\t-7 \r\n c", list(edge(0, 4, 1<<32-7)), right())
	is(t, matrix, counted, 5, " \t%%MatrixMarket\tmatrix  coordinate integer\tgeneral \r\n \n\t5 5\t1\n 1\t5   9\t", list(edge(0, 4, 9)), right())
}

// P8.2, lines: the longest one, and one byte more, in each format and each sort of line.
func TestLinesLong(t *testing.T) {
	pad := func(line string, length int) string { return line + strings.Repeat(" ", length-len(line)) }
	full := func(line string) string { return pad(line, api.MaxLine) }
	over := func(line string) string { return pad(line, api.MaxLine+1) }
	for _, c := range []struct {
		f     api.Format
		k     api.EdgeKind
		ahead string // lines that are right, so many
		lines int
		line  string // a line that may stand behind them
		err   api.Errno
		edges []api.Edge
	}{
		{snap, plain, "", 0, "1 2", api.OK, list(edge(1, 2, 0))},
		{snap, plain, "", 0, "#", api.OK, nil},
		{snap, plain, "", 0, "", api.OK, nil},
		{snap, plain, "", 0, "x", api.ErrToken, nil},
		{dimacs, plain, "p sp 3 0\n", 1, "c", api.OK, nil},
		{dimacs, plain, "p sp 3 0\n", 1, "", api.OK, nil},
		{dimacs, plain, "p sp 3 1\n", 1, "a 1 2", api.OK, list(edge(0, 1, 0))},
		{dimacs, plain, "", 0, "p sp 3 0", api.OK, nil},
		{dimacs, plain, "p sp 3 0\n", 1, "a 1 2", api.ErrCount, nil},
		{dimacs, plain, "p sp 3 0\n", 1, "p sp 3 0", api.ErrHeader, nil},
		{dimacs, plain, "", 0, "q", api.ErrLine, nil},
		{matrix, plain, title("pattern", "general") + "\n", 1, "3 3 0", api.OK, nil},
		{matrix, plain, title("pattern", "general") + "\n3 3 0\n", 2, "%", api.OK, nil},
		{matrix, plain, title("pattern", "general") + "\n3 3 0\n", 2, "1 1", api.ErrCount, nil},
	} {
		for _, end := range []string{"", "\r", "\n", "\r\n"} {
			want := right()
			if c.err != api.OK {
				want = at(c.ahead, c.err, c.lines+1, 1)
			}
			is(t, c.f, c.k, 3, c.ahead+full(c.line)+end, c.edges, want)
			is(t, c.f, c.k, 3, c.ahead+over(c.line)+end, nil, at(c.ahead, api.ErrLong, c.lines+1, 1))
		}
	}
	first := full(title("pattern", "general"))
	is(t, matrix, plain, 3, first+"\n3 3 0\n", nil, right())
	is(t, matrix, plain, 3, first+"\r\n3 3 0\n", nil, right())
	is(t, matrix, plain, 3, first+" \n3 3 0\n", nil, api.Snag{Code: api.ErrLong, Line: 1, Col: 1})
	is(t, matrix, plain, 3, strings.Repeat("x", api.MaxLine+1), nil, api.Snag{Code: api.ErrLong, Line: 1, Col: 1})
	is(t, snap, plain, 3, strings.Repeat("x", 1<<20), nil, api.Snag{Code: api.ErrLong, Line: 1, Col: 1})
	is(t, snap, plain, 3, strings.Repeat("\r", api.MaxLine+1), nil, api.Snag{Code: api.ErrToken, Line: 1, Col: 1})
	is(t, snap, plain, 3, strings.Repeat("\r", api.MaxLine+2), nil, api.Snag{Code: api.ErrLong, Line: 1, Col: 1})
}

// P8.2: vertices' numbers, digit by digit.
func TestVertexNumbers(t *testing.T) {
	zeros := strings.Repeat("0", 18)
	for _, c := range []struct {
		text string
		err  api.Errno
		v    uint32
	}{
		{"0", api.OK, 0}, {"9", api.OK, 9}, {"10", api.ErrNode, 0}, {"007", api.OK, 7},
		{zeros + "7", api.OK, 7}, {zeros + "07", api.ErrToken, 0}, {zeros + "0", api.OK, 0},
		{"9999999999999999999", api.ErrNode, 0}, {"10000000000000000000", api.ErrToken, 0}, {"00000000000000000000", api.ErrToken, 0},
		{"9223372036854775808", api.ErrNode, 0}, {"4294967297", api.ErrNode, 0}, {"4294967296", api.ErrNode, 0},
		{"-1", api.ErrToken, 0}, {"-0", api.ErrToken, 0}, {"-", api.ErrToken, 0}, {"--1", api.ErrToken, 0}, {"+1", api.ErrToken, 0}, {"-11", api.ErrToken, 0},
		{"1.0", api.ErrToken, 0}, {"1e0", api.ErrToken, 0}, {"0x1", api.ErrToken, 0}, {"1_0", api.ErrToken, 0}, {"/", api.ErrToken, 0}, {":", api.ErrToken, 0}, {"1:", api.ErrToken, 0}, {"/1", api.ErrToken, 0},
		{"\u0661", api.ErrToken, 0}, {"1,", api.ErrToken, 0}, {"x", api.ErrToken, 0}, {"#", api.ErrToken, 0},
	} {
		src, dst := " "+c.text+" 5", "5\t"+c.text
		if c.err == api.OK {
			is(t, snap, plain, 10, src, list(edge(c.v, 5, 0)), right())
			is(t, snap, plain, 10, dst, list(edge(5, c.v, 0)), right())
		} else {
			is(t, snap, plain, 10, src, nil, at(src, c.err, 1, 2))
			is(t, snap, plain, 10, dst, nil, at(dst, c.err, 1, 3))
		}
	}
}

// P8.2: in the formats that number from 1 on, 0 and n + 1 are no vertices, and n is one.
func TestVertexNumbersFromOne(t *testing.T) {
	heads := map[api.Format]string{dimacs: "p sp 7 2\n\na 1 7\na ", matrix: title("pattern", "general") + "\n7 7 2\n1 7\n"}
	for f, head := range heads {
		col := map[api.Format]int{dimacs: 3, matrix: 1}[f]
		is(t, f, plain, 7, head+"7 1", list(edge(0, 6, 0), edge(6, 0, 0)), right())
		for _, c := range []struct {
			tail string
			err  api.Errno
			col  int
		}{
			{"0 1", api.ErrNode, 0}, {"8 1", api.ErrNode, 0}, {"1 0", api.ErrNode, 2}, {"7 8", api.ErrNode, 2}, {"0 x", api.ErrNode, 0}, {"-1 0", api.ErrToken, 0}, {"1 -0", api.ErrToken, 2}, {"9223372036854775809 1", api.ErrNode, 0}, {"000 1", api.ErrNode, 0},
		} {
			is(t, f, plain, 7, head+c.tail, list(edge(0, 6, 0)), at(head+c.tail, c.err, 4, col+c.col))
		}
	}
}
