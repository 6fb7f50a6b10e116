package quay_test

import (
	"testing"

	"sluice/api"
)

// P8.2, FmtDimacs: each kind, and the chapter's example 3.
func TestDimacs(t *testing.T) {
	text := "c x\np sp 3 2\na 1 2 5\na 3 1 -5\n"
	is(t, dimacs, counted, 3, text, list(edge(0, 1, 5), edge(2, 0, 1<<32-5)), right())
	short := "c x\np sp 3 2\na 1 2 5\n"
	is(t, dimacs, counted, 3, short, list(edge(0, 1, 5)), api.Snag{Code: api.ErrCount, Line: 4, Col: 1, At: 21})
	is(t, dimacs, counted, 3, text+"a 1 1 1", list(edge(0, 1, 5), edge(2, 0, 1<<32-5)), at(text, api.ErrCount, 5, 1))
	is(t, dimacs, real, 3, "p sp 3 1\na 1 2 .5", list(edge(0, 1, half)), right())
	is(t, dimacs, plain, 3, "p sp 3 0", nil, right())
	is(t, dimacs, plain, 3, "p sp 3 0\n\nc\n c x\n\t\nc", nil, right())
}

// P8.2, FmtDimacs: of EPlain the weight is left out, or an integer of any size that is let go.
func TestDimacsPlain(t *testing.T) {
	text := joined("p sp 3 4", "a 1 2", "a 2 3 77", "a 3 1 -9999999999999999999", "a 1 1 0000000000000000000 ")
	is(t, dimacs, plain, 3, text, list(edge(0, 1, 0), edge(1, 2, 0), edge(2, 0, 0), edge(0, 0, 0)), right())
	for _, w := range []string{"x", "1.5", "+1", "1e0", "-", "inf", "10000000000000000000", "-10000000000000000000"} {
		bad := "p sp 3 1\na 1 2 " + w
		is(t, dimacs, plain, 3, bad, nil, at(bad, api.ErrToken, 2, 7))
	}
}

// P8.2, FmtDimacs: what is wrong in a line behind the head.
func TestDimacsWrong(t *testing.T) {
	for _, c := range []struct {
		k    api.EdgeKind
		line string
		err  api.Errno
		col  int
	}{
		{counted, "q", api.ErrLine, 1},
		{counted, " A 1 2 3", api.ErrLine, 2},
		{counted, "C", api.ErrLine, 1},
		{counted, "P sp 3 1", api.ErrLine, 1},
		{counted, "ca 1 2", api.ErrLine, 1},
		{counted, "cc", api.ErrLine, 1},
		{counted, "# x", api.ErrLine, 1},
		{counted, "1 2 3", api.ErrLine, 1},
		{counted, "aa 1 2 3", api.ErrLine, 1},
		{counted, "a1 2 3", api.ErrLine, 1},
		{counted, "\tp", api.ErrHeader, 2},
		{counted, "p sp 3 4", api.ErrHeader, 1},
		{counted, "p x", api.ErrHeader, 1},
		{counted, "a", api.ErrToken, 2},
		{counted, "a 1", api.ErrToken, 4},
		{counted, "a 1 2", api.ErrToken, 6},
		{counted, "a 1 2 3 4", api.ErrToken, 9},
		{counted, "a 4", api.ErrNode, 3},
		{counted, "a 0 x", api.ErrNode, 3},
		{counted, "a x 0", api.ErrToken, 3},
		{counted, "a 1 4 x", api.ErrNode, 5},
		{counted, "a 1 2 x 4", api.ErrToken, 7},
		{counted, "a 1 2 2147483648 4", api.ErrScale, 7},
		{real, "a 1 2", api.ErrToken, 6},
		{real, "a 1 2 x", api.ErrToken, 7},
		{real, "a 1 2 inf", api.ErrScale, 7},
		{plain, "a 1", api.ErrToken, 4},
		{plain, "a 1 2 3 4", api.ErrToken, 9},
		{plain, "a 1 2 3 x", api.ErrToken, 9},
		{plain, "a 1 2 x y", api.ErrToken, 7},
	} {
		bits := map[api.EdgeKind]uint32{plain: 0, counted: 5, real: 0x40a00000}[c.k]
		input := joined("c", "p sp 3 4", "a 3 2 5", c.line, "a 0 0 0", "q")
		is(t, dimacs, c.k, 3, input, list(edge(2, 1, bits)), at(input, c.err, 4, c.col))
	}
}

// headWrong are heads of FmtDimacs that are wrong whatever n is, and where.
func headWrong() map[string]int {
	return map[string]int{
		"p": 2, "p ": 3, "p sp": 5, "p sp 3": 7, "p sp 3  ": 9,
		"p SP 3 1": 3, "p tsp 3 1": 3, "p s 3 1": 3, "p spp 3 1": 3, "p 3 1": 3, "p max 0 x y": 3,
		"p sp 0 1": 6, "p sp -3 1": 6, "p sp -0 1": 6, "p sp x 1": 6, "p sp 3.0 1": 6, "p sp +3 1": 6, "p sp 2147483648 1": 6, "p sp 9999999999999999999 x": 6, "p sp 00000000000000000003 1": 6,
		"p sp 3 -1": 8, "p sp 3 x": 8, "p sp 3 1099511627777": 8, "p sp 3 9999999999999999999": 8, "p sp 3 1.": 8, "p sp 3 +1": 8, "p sp 3 00000000000000000001": 8, "p sp 3 -1099511627776": 8,
		"p sp 3 1 1": 10, "p sp 3 1\t\tx": 11, "p sp 3 1 #": 10, "\tp sp 3 1 0": 11,
	}
}

// P8.1, P8.2, FmtDimacs: a head that is wrong is told by Head and by Edges alike.
func TestDimacsHeadWrong(t *testing.T) {
	for line, col := range headWrong() {
		for _, input := range []string{line, line + "\r\n", "c x\n\n" + line + "\na 1 2 3\n"} {
			number := 1
			if input[0] == 'c' {
				number = 3
			}
			want := at(input, api.ErrHeader, number, col)
			for _, k := range kinds() {
				is(t, dimacs, k, 3, input, nil, want)
				headIs(t, dimacs, k, input, api.Header{}, want)
			}
		}
	}
}

// P8.2, FmtDimacs: a head of another graph; what stands ahead of the head; a head that does not come.
func TestDimacsHeadPlace(t *testing.T) {
	is(t, dimacs, plain, 3, "p sp 4 0", nil, api.Snag{Code: api.ErrHeader, Line: 1, Col: 6, At: 5})
	is(t, dimacs, plain, 3, "p sp 2 x", nil, api.Snag{Code: api.ErrHeader, Line: 1, Col: 6, At: 5})
	is(t, dimacs, plain, api.MaxVertices, "p sp 2147483647 0", nil, right())
	is(t, dimacs, plain, 3, "p sp 003 00", nil, right())
	is(t, dimacs, plain, 3, "p sp 3 -0", nil, right())
	is(t, dimacs, plain, 3, "p sp 3 -0\na 1 1", nil, api.Snag{Code: api.ErrCount, Line: 2, Col: 1, At: 10})
	for _, c := range []struct {
		input string
		err   api.Errno
		line  int
		col   int
	}{
		{"a 1 2", api.ErrHeader, 1, 1},
		{"c\n a", api.ErrHeader, 2, 2},
		{"a x y z\np sp 3 0", api.ErrHeader, 1, 1},
		{"q\np sp 3 0", api.ErrLine, 1, 1},
		{"\n# x\np sp 3 0", api.ErrLine, 2, 1},
	} {
		is(t, dimacs, plain, 3, c.input, nil, at(c.input, c.err, c.line, c.col))
		headIs(t, dimacs, plain, c.input, api.Header{}, at(c.input, c.err, c.line, c.col))
	}
	for input, lines := range map[string]int{"": 0, "\n": 1, "c": 1, "c\n": 1, "c\n\n \n": 3, "c\r\nc x\r": 2, "\r": 1} {
		is(t, dimacs, plain, 3, input, nil, behind(input, api.ErrHeader, lines))
		headIs(t, dimacs, plain, input, api.Header{}, behind(input, api.ErrHeader, lines))
	}
}

// P8.2, FmtDimacs: more and fewer lines than the head says; one too many is told ahead of its fields.
func TestDimacsCount(t *testing.T) {
	for _, tail := range []string{"a 1 1", "a", "a 9 9 9 9", "a x"} {
		for _, ahead := range []string{"p sp 3 0\n", "p sp 3 0\n\nc\n"} {
			input := ahead + "  " + tail
			number := map[string]int{"p sp 3 0\n": 2, "p sp 3 0\n\nc\n": 4}[ahead]
			is(t, dimacs, plain, 3, input, nil, at(input, api.ErrCount, number, 3))
		}
	}
	is(t, dimacs, plain, 3, "p sp 3 1\na 1 1\nq", list(edge(0, 0, 0)), api.Snag{Code: api.ErrLine, Line: 3, Col: 1, At: 15})
	is(t, dimacs, plain, 3, "p sp 3 1\na 1 1\np", list(edge(0, 0, 0)), api.Snag{Code: api.ErrHeader, Line: 3, Col: 1, At: 15})
	for input, lines := range map[string]int{"p sp 3 1": 1, "p sp 3 1\n": 1, "p sp 3 2\na 1 1\nc": 3, "p sp 3 1099511627776\na 1 1\n\n": 3} {
		edges, snag := told(t, dimacs, plain, 3, input)
		if len(edges) > 1 || snag != behind(input, api.ErrCount, lines) {
			t.Errorf("%q: %v, %v", input, edges, snag)
		}
	}
}
