package quay_test

import (
	"strings"
	"testing"

	"sluice/api"
)

// P8.2, FmtSnap: each kind, and the chapter's example 2.
func TestSnap(t *testing.T) {
	is(t, snap, plain, 10, "", nil, right())
	is(t, snap, plain, 10, "\n", nil, right())
	is(t, snap, plain, 10, "# 1 2\n#\n#3 4", nil, right())
	is(t, snap, plain, 10, "0 9\n9 0\n5 5\n5 5\n", list(edge(0, 9, 0), edge(9, 0, 0), edge(5, 5, 0), edge(5, 5, 0)), right())
	is(t, snap, counted, 10, "# two\n1\t2 -3\r\n\n 4  5 06", list(edge(1, 2, 1<<32-3), edge(4, 5, 6)), right())
	is(t, snap, real, 10, "1 2 0.5\n3 4 -1\n5 6 1e0", list(edge(1, 2, half), edge(3, 4, minus|one), edge(5, 6, one)), right())
}

// P8.2, FmtSnap: what is wrong in a line, from left to right, and which comes first.
func TestSnapWrong(t *testing.T) {
	for _, c := range []struct {
		k    api.EdgeKind
		line string
		err  api.Errno
		col  int
	}{
		{counted, "1 2", api.ErrToken, 4},
		{counted, "1 2 3 4", api.ErrToken, 7},
		{counted, "1 10 x", api.ErrNode, 3},
		{counted, "1 2  ", api.ErrToken, 6},
		{counted, "10", api.ErrNode, 1},
		{counted, "x", api.ErrToken, 1},
		{counted, "1", api.ErrToken, 2},
		{counted, "1 x", api.ErrToken, 3},
		{counted, "x 10", api.ErrToken, 1},
		{counted, "10 x 2147483648 9", api.ErrNode, 1},
		{counted, "1 2 2147483648 9", api.ErrScale, 5},
		{counted, "1 2 x 9", api.ErrToken, 5},
		{counted, "1 2 3\t\t4 5 6", api.ErrToken, 8},
		{counted, " # 1 2", api.ErrToken, 2},
		{counted, "1 2 # 3", api.ErrToken, 5},
		{counted, "1 2 3 #", api.ErrToken, 7},
		{counted, "% 1", api.ErrToken, 1},
		{counted, "c 1", api.ErrToken, 1},
		{counted, "a 1 2 3", api.ErrToken, 1},
		{counted, "p sp 10 1", api.ErrToken, 1},
		{plain, "1 2 3", api.ErrToken, 5},
		{plain, "1", api.ErrToken, 2},
		{plain, "10 10 3", api.ErrNode, 1},
		{plain, "9 10 3", api.ErrNode, 3},
		{plain, "1 2 #", api.ErrToken, 5},
		{real, "1 2", api.ErrToken, 4},
		{real, "1 2 x", api.ErrToken, 5},
		{real, "1 2 inf 4", api.ErrScale, 5},
		{real, "1 2 3 4", api.ErrToken, 7},
	} {
		weight := map[api.EdgeKind]string{plain: "", counted: " 5", real: " 5"}[c.k]
		bits := map[api.EdgeKind]uint32{plain: 0, counted: 5, real: 0x40a00000}[c.k]
		good := list(edge(7, 8, bits))
		input := joined("# x", "7 8"+weight, c.line, "10 10", strings.Repeat("x", 2000))
		is(t, snap, c.k, 10, input, good, at(input, c.err, 3, c.col))
		is(t, snap, c.k, 10, c.line, nil, at(c.line, c.err, 1, c.col))
		is(t, snap, c.k, 10, c.line+"\r", nil, at(c.line, c.err, 1, c.col))
	}
}

// P8.2: weights of kind ECounted, at the bounds of int32.
func TestCountedWeights(t *testing.T) {
	for _, c := range []struct {
		text string
		err  api.Errno
		w    uint32
	}{
		{"0", api.OK, 0}, {"-0", api.OK, 0}, {"1", api.OK, 1}, {"-1", api.OK, 1<<32 - 1}, {"0000000000000000012", api.OK, 12}, {"-0000000000000000012", api.OK, 1<<32 - 12},
		{"2147483647", api.OK, 1<<31 - 1}, {"-2147483648", api.OK, 1 << 31}, {"-2147483647", api.OK, 1<<31 + 1},
		{"2147483648", api.ErrScale, 0}, {"-2147483649", api.ErrScale, 0}, {"4294967296", api.ErrScale, 0}, {"-4294967296", api.ErrScale, 0}, {"4294967297", api.ErrScale, 0},
		{"9999999999999999999", api.ErrScale, 0}, {"-9999999999999999999", api.ErrScale, 0}, {"9223372036854775808", api.ErrScale, 0}, {"-9223372036854775808", api.ErrScale, 0},
		{"10000000000000000000", api.ErrToken, 0}, {"-10000000000000000000", api.ErrToken, 0}, {"00000000000000000012", api.ErrToken, 0},
		{"+1", api.ErrToken, 0}, {"1.0", api.ErrToken, 0}, {"1e3", api.ErrToken, 0}, {"-", api.ErrToken, 0}, {"--1", api.ErrToken, 0}, {"1-", api.ErrToken, 0}, {"inf", api.ErrToken, 0}, {"0x1", api.ErrToken, 0},
	} {
		inputs := map[api.Format]string{snap: "1 0 " + c.text, dimacs: "p sp 2 1\na 2 1 " + c.text, matrix: title("integer", "general") + "\n2 2 1\n2 1 " + c.text}
		for f, input := range inputs {
			if c.err == api.OK {
				is(t, f, counted, 2, input, list(edge(1, 0, c.w)), right())
				continue
			}
			is(t, f, counted, 2, input, nil, lastField(input, c.err))
		}
	}
}

// P8.2: weights of kind EReal: what ReadDec reads and is finite.
func TestRealWeights(t *testing.T) {
	digits := strings.Repeat("0", 63)
	for _, c := range []struct {
		text string
		err  api.Errno
		w    uint32
	}{
		{"0", api.OK, 0}, {"-0", api.OK, minus}, {"0.1", api.OK, 0x3dcccccd}, {".5", api.OK, half}, {"5.", api.OK, 0x40a00000}, {"+5e-1", api.OK, half}, {"1E0", api.OK, one}, {"16777217", api.OK, 0x4b800000},
		{"3.40282347e+38", api.OK, greatest}, {"-3.40282347e+38", api.OK, minus | greatest}, {"3.4028235e38", api.OK, greatest}, {"1e-46", api.OK, 0}, {"-1e-400", api.OK, minus}, {"1.4e-45", api.OK, 1}, {digits + "1", api.OK, one}, {"99999999999999999999", api.OK, 0x60ad78ec},
		{"3.4028236e38", api.ErrScale, 0}, {"-3.4028236e38", api.ErrScale, 0}, {"1e99", api.ErrScale, 0}, {"inf", api.ErrScale, 0}, {"-inf", api.ErrScale, 0}, {"+inf", api.ErrScale, 0},
		{digits + "01", api.ErrScale, 0}, {"1e401", api.ErrScale, 0}, {"1e-401", api.ErrScale, 0}, {"0e401", api.ErrScale, 0}, {"0e400", api.OK, 0}, {"0e9999", api.ErrScale, 0},
		{"1e12345", api.ErrToken, 0}, {"nan", api.ErrToken, 0}, {"Inf", api.ErrToken, 0}, {"infinity", api.ErrToken, 0}, {".", api.ErrToken, 0}, {"1e", api.ErrToken, 0}, {"1e+", api.ErrToken, 0}, {"0x1p+0", api.ErrToken, 0}, {"1,5", api.ErrToken, 0}, {"--1", api.ErrToken, 0}, {"1_0", api.ErrToken, 0}, {"e5", api.ErrToken, 0}, {"1f", api.ErrToken, 0},
	} {
		inputs := map[api.Format]string{snap: "1 0 " + c.text, dimacs: "p sp 2 1\na 2 1 " + c.text, matrix: title("real", "general") + "\n2 2 1\n2 1 " + c.text}
		for f, input := range inputs {
			if c.err == api.OK {
				is(t, f, real, 2, input, list(edge(1, 0, c.w)), right())
				continue
			}
			is(t, f, real, 2, input, nil, lastField(input, c.err))
		}
	}
}

// lastField is the place of the last field of an input.
func lastField(input string, err api.Errno) api.Snag {
	begin := strings.LastIndexByte(input, ' ') + 1
	return api.Snag{Code: err, Line: strings.Count(input, "\n") + 1, Col: begin - strings.LastIndexByte(input, '\n'), At: begin}
}
