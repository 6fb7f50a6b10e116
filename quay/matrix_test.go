package quay_test

import (
	"strings"
	"testing"

	"sluice/api"
)

// P8.2, FmtMatrix: each FIELD for each kind, and the chapter's example 4.
func TestMatrix(t *testing.T) {
	is(t, matrix, real, 3, "%%MatrixMarket matrix coordinate Pattern Symmetric\n% c\n3 3 2\n2 1\n3 3\n", list(edge(1, 0, one), edge(0, 1, one), edge(2, 2, one)), right())
	lines := map[string]string{"pattern": "2 1", "integer": "2 1 -7", "real": "2 1 0.5"}
	for _, c := range []struct {
		field string
		k     api.EdgeKind
		w     uint32
	}{
		{"pattern", plain, 0}, {"pattern", counted, 1}, {"pattern", real, one},
		{"integer", plain, 0}, {"integer", counted, 1<<32 - 7}, {"integer", real, 0xc0e00000},
		{"real", plain, 0}, {"real", real, half},
	} {
		general := joined(title(c.field, "general"), "3 3 1", lines[c.field])
		is(t, matrix, c.k, 3, general, list(edge(1, 0, c.w)), right())
		twice := joined(title(c.field, "symmetric"), "3 3 2", lines[c.field], strings.Replace(lines[c.field], "2 1", "2 2", 1))
		is(t, matrix, c.k, 3, twice, list(edge(1, 0, c.w), edge(0, 1, c.w), edge(1, 1, c.w)), right())
		empty := joined(title(c.field, "general"), "", "% x", "3 3 0", "%", " ")
		is(t, matrix, c.k, 3, empty, nil, right())
	}
}

// P8.2, FmtMatrix: X as FIELD says it, for each kind.
func TestMatrixWeights(t *testing.T) {
	for _, c := range []struct {
		field string
		k     api.EdgeKind
		x     string
		err   api.Errno
		w     uint32
	}{
		{"integer", plain, "9999999999999999999", api.OK, 0}, {"integer", plain, "-9999999999999999999", api.OK, 0}, {"integer", plain, "10000000000000000000", api.ErrToken, 0}, {"integer", plain, "1.5", api.ErrToken, 0}, {"integer", plain, "+1", api.ErrToken, 0}, {"integer", plain, "x", api.ErrToken, 0},
		{"integer", counted, "2147483647", api.OK, 1<<31 - 1}, {"integer", counted, "2147483648", api.ErrScale, 0}, {"integer", counted, "-2147483648", api.OK, 1 << 31}, {"integer", counted, "-2147483649", api.ErrScale, 0}, {"integer", counted, "1.", api.ErrToken, 0},
		{"integer", real, "16777217", api.OK, 0x4b800000}, {"integer", real, "-0", api.OK, minus}, {"integer", real, "0000000000000000003", api.OK, 0x40400000}, {"integer", real, "9999999999999999999", api.OK, 0x5f0ac723}, {"integer", real, "-9999999999999999999", api.OK, minus | 0x5f0ac723}, {"integer", real, "10000000000000000000", api.ErrToken, 0}, {"integer", real, "1.5", api.ErrToken, 0}, {"integer", real, "+1", api.ErrToken, 0}, {"integer", real, "1e3", api.ErrToken, 0}, {"integer", real, "inf", api.ErrToken, 0},
		{"real", plain, "1.5", api.OK, 0}, {"real", plain, "-0", api.OK, 0}, {"real", plain, "7", api.OK, 0}, {"real", plain, "x", api.ErrToken, 0}, {"real", plain, "1e99", api.ErrScale, 0}, {"real", plain, "inf", api.ErrScale, 0}, {"real", plain, "1e401", api.ErrScale, 0}, {"real", plain, "1e", api.ErrToken, 0},
		{"real", real, "1.5", api.OK, 0x3fc00000}, {"real", real, "7", api.OK, 0x40e00000}, {"real", real, "10000000000000000000", api.OK, 0x5f0ac723}, {"real", real, "x", api.ErrToken, 0}, {"real", real, "1e99", api.ErrScale, 0}, {"real", real, "-inf", api.ErrScale, 0},
	} {
		input := title(c.field, "general") + "\n3 3 1\n3 2 " + c.x
		if c.err == api.OK {
			is(t, matrix, c.k, 3, input, list(edge(2, 1, c.w)), right())
			continue
		}
		is(t, matrix, c.k, 3, input, nil, at(input, c.err, 3, 5))
		is(t, matrix, c.k, 3, input+" 1", nil, at(input, c.err, 3, 5))
	}
}

// titleWrong are first lines that are wrong for each kind, and where.
func titleWrong() map[string]int {
	return map[string]int{
		"": 1, "  ": 3, "x": 1, "3 3 0": 1, "%": 1, "% x": 1, "%%": 1, "%MatrixMarket matrix coordinate pattern general": 1,
		"%%matrixmarket matrix coordinate pattern general": 1, "%%MATRIXMARKET matrix coordinate pattern general": 1, "%%MatrixMarke matrix coordinate pattern general": 1, "%%MatrixMarkett matrix coordinate pattern general": 1, "%% MatrixMarket matrix coordinate pattern general": 1, " %%Matrixmarket matrix": 2,
		"%%MatrixMarket": 15, "%%MatrixMarket ": 16, "%%MatrixMarket vector coordinate pattern general": 16, "%%MatrixMarket matri coordinate pattern general": 16, "%%MatrixMarket matrices coordinate pattern general": 16, "%%MatrixMarket matriX\x00 coordinate pattern general": 16, "%%MatrixMarket coordinate pattern general": 16,
		"%%MatrixMarket matrix": 22, "%%MatrixMarket matrix array real general": 23, "%%MatrixMarket matrix\tcoordinatEx pattern general": 23,
		"%%MatrixMarket matrix coordinate": 33, "%%MatrixMarket matrix coordinate complex general": 34, "%%MatrixMarket matrix coordinate patter general": 34, "%%MatrixMarket matrix coordinate x y z": 34, "%%MatrixMarket matrix coordinate general": 34, "%%MatrixMarket matrix coordinate double general": 34,
		"%%MatrixMarket matrix coordinate pattern": 41, "%%MatrixMarket matrix coordinate pattern  ": 43, "%%MatrixMarket matrix coordinate pattern skew-symmetric": 42, "%%MatrixMarket matrix coordinate pattern hermitian": 42, "%%MatrixMarket matrix coordinate pattern x y": 42, "%%MatrixMarket matrix coordinate integer generaLL": 42, "%%MatrixMarket matrix coordinate pattern genera": 42,
		"%%MatrixMarket matrix coordinate pattern general x": 50, "%%MatrixMarket matrix coordinate pattern symmetric %": 52, "%%MatrixMarket matrix coordinate integer general  1 2": 51,
		"%%MatrixMarket matrix coordinate p\x01ttern general": 34, "%%MatrixMarket matrix coordinate integer ge\x0eeral": 42, "%%MatrixMarket mat[ix coordinate": 16, "%%MatrixMarket matrix coordinate pattern \u017fymmetric": 42,
	}
}

// P8.1, P8.2, FmtMatrix: a first line that is wrong is told by Head and by Edges alike.
func TestMatrixTitleWrong(t *testing.T) {
	for line, col := range titleWrong() {
		for _, tail := range []string{"\n", "\r\n", "\n3 3 0\n", "\nx y\n1 2 3 4 5"} {
			want := at(line, api.ErrHeader, 1, col)
			for _, k := range kinds() {
				is(t, matrix, k, 3, line+tail, nil, want)
				headIs(t, matrix, k, line+tail, api.Header{}, want)
			}
		}
	}
}

// P8.1, P8.2, FmtMatrix: letters of either size, but in the first word.
func TestMatrixLetters(t *testing.T) {
	for _, line := range []string{"%%MatrixMarket MATRIX COORDINATE INTEGER SYMMETRIC", "%%MatrixMarket Matrix Coordinate Integer Symmetric", "%%MatrixMarket mAtRiX cOoRdInAtE iNtEgEr sYmMeTrIc"} {
		is(t, matrix, counted, 3, line+"\n3 3 1\n3 1 4", list(edge(2, 0, 4), edge(0, 2, 4)), right())
		headIs(t, matrix, counted, line+"\n3 3 1\n", api.Header{N: 3, Edges: 1, Twice: true, Field: "integer"}, right())
	}
	is(t, matrix, real, 3, "%%MatrixMarket matrix coordinate REAL GENERAL\n3 3 1\n1 3 4", list(edge(0, 2, 0x40800000)), right())
	is(t, matrix, plain, 3, "%%MatrixMarket matrix coordinate PATTERN GENERAL\n3 3 1\n1 3", list(edge(0, 2, 0)), right())
}

// P8.1, P8.2, FmtMatrix: FIELD real where ECounted is wanted is told at FIELD, ahead of what is wrong behind it and behind what is wrong ahead.
func TestMatrixRealForCounted(t *testing.T) {
	for _, tail := range []string{"real general\n3 3 0", "Real", "REAL x y", "real general 1", "real general"} {
		input := "%%MatrixMarket matrix coordinate " + tail
		want := api.Snag{Code: api.ErrScale, Line: 1, Col: 34, At: 33}
		is(t, matrix, counted, 3, input, nil, want)
		headIs(t, matrix, counted, input, api.Header{}, want)
	}
	is(t, matrix, counted, 3, "%%MatrixMarket matrix array real general\n", nil, api.Snag{Code: api.ErrHeader, Line: 1, Col: 23, At: 22})
}

// P8.1, P8.2, FmtMatrix: a size line that is wrong whatever n is.
func TestMatrixSizeWrong(t *testing.T) {
	for line, col := range map[string]int{
		"3": 2, "3 ": 3, "3 3": 4, "3 3  ": 6, "x": 1, "0 0 0": 1, "-3 -3 0": 1, "-0 3 0": 1, "2147483648 2147483648 0": 1, "3.0 3 0": 1, "+3 3 0": 1, "00000000000000000003 3 0": 1, " % 3 3 0": 2,
		"3 4 0": 3, "3 2 x": 3, "3 -3 0": 3, "3 x 0": 3, "3 0 0": 3, "3 3. 0": 3, "3 9999999999999999999 0": 3, "3 18446744073709551619 0": 3, "3 4294967299 0": 3,
		"3 3 x": 5, "3 3 -1": 5, "3 3 1099511627777": 5, "3 3 9999999999999999999": 5, "3 3 1.0": 5, "3 3 00000000000000000001": 5,
		"3 3 1 1": 7, "\t3 3 0 x": 8, "3 3 0\t%": 7,
	} {
		for _, ahead := range []string{"", "\n% 3 3 1\n"} {
			input := title("pattern", "general") + "\n" + ahead + line + "\n1 1\n"
			want := at(input, api.ErrHeader, 2+strings.Count(ahead, "\n"), col)
			for _, k := range kinds() {
				is(t, matrix, k, 3, input, nil, want)
				headIs(t, matrix, k, input, api.Header{}, want)
			}
		}
	}
}

// P8.2, FmtMatrix: a size of another graph; one that does not come; the bounds of a size.
func TestMatrixSizePlace(t *testing.T) {
	first := title("pattern", "general")
	other := first + "\n4 5 x\n"
	is(t, matrix, plain, 3, other, nil, at(other, api.ErrHeader, 2, 1))
	is(t, matrix, plain, api.MaxVertices, first+"\n2147483647 2147483647 0", nil, right())
	is(t, matrix, plain, 3, first+"\n003 03 000", nil, right())
	is(t, matrix, plain, 3, first+"\n3 3 -0", nil, right())
	for tail, lines := range map[string]int{"": 1, "\n": 1, "\r\n": 1, "\n\n%\n": 3, "\n% 3 3 0": 2} {
		is(t, matrix, plain, 3, first+tail, nil, behind(first+tail, api.ErrHeader, lines))
		headIs(t, matrix, plain, first+tail, api.Header{}, behind(first+tail, api.ErrHeader, lines))
	}
	is(t, matrix, plain, 3, "", nil, api.Snag{Code: api.ErrHeader, Line: 1, Col: 1})
	headIs(t, matrix, plain, "", api.Header{}, api.Snag{Code: api.ErrHeader, Line: 1, Col: 1})
}

// P8.2, FmtMatrix: what is wrong in an entry, and which comes first.
func TestMatrixEntryWrong(t *testing.T) {
	for _, c := range []struct {
		field, symmetry, line string
		err                   api.Errno
		col                   int
	}{
		{"integer", "general", "1", api.ErrToken, 2},
		{"integer", "general", "1 2", api.ErrToken, 4},
		{"integer", "general", "1 2 ", api.ErrToken, 5},
		{"integer", "general", "1 2 3 4", api.ErrToken, 7},
		{"integer", "general", "4 2 x", api.ErrNode, 1},
		{"integer", "general", "0 2 x", api.ErrNode, 1},
		{"integer", "general", "1 4 x", api.ErrNode, 3},
		{"integer", "general", "x 4", api.ErrToken, 1},
		{"integer", "general", "1 2 2147483648 9", api.ErrScale, 5},
		{"integer", "general", " % x", api.ErrToken, 2},
		{"integer", "general", "1 2 %", api.ErrToken, 5},
		{"integer", "symmetric", "1 2 3", api.ErrLine, 1},
		{"integer", "symmetric", "\t2 3 3", api.ErrLine, 2},
		{"integer", "symmetric", "1 2 3 4", api.ErrToken, 7},
		{"integer", "symmetric", "1 2 x", api.ErrToken, 5},
		{"integer", "symmetric", "1 2 2147483648", api.ErrScale, 5},
		{"integer", "symmetric", "1 2", api.ErrToken, 4},
		{"integer", "symmetric", "1 4 3", api.ErrNode, 3},
		{"pattern", "symmetric", "1 2", api.ErrLine, 1},
		{"pattern", "symmetric", "1 2 3", api.ErrToken, 5},
		{"pattern", "general", "1 2 3", api.ErrToken, 5},
		{"pattern", "general", "1", api.ErrToken, 2},
	} {
		good := map[string]string{"integer": "3 3 5", "pattern": "3 3"}[c.field]
		w := map[string]uint32{"integer": 5, "pattern": 1}[c.field]
		input := joined(title(c.field, c.symmetry), "%", "3 3 3", good, "", c.line, "1 2 3 4 5")
		is(t, matrix, counted, 3, input, list(edge(2, 2, w)), at(input, c.err, 6, c.col))
	}
}

// P8.2, FmtMatrix: more and fewer entries than the size says; an entry that stands for two edges is one.
func TestMatrixCount(t *testing.T) {
	twice := joined(title("pattern", "symmetric"), "3 3 2", "2 1", "3 1")
	edges := list(edge(1, 0, 0), edge(0, 1, 0), edge(2, 0, 0), edge(0, 2, 0))
	is(t, matrix, plain, 3, twice, edges, right())
	for _, tail := range []string{"3 3", "1 2", "x", "9 9 9", "1"} {
		input := twice + "%\n\t" + tail
		is(t, matrix, plain, 3, input, edges, at(input, api.ErrCount, 6, 2))
	}
	none := joined(title("pattern", "general"), "3 3 0") + "x"
	is(t, matrix, plain, 3, none, nil, at(none, api.ErrCount, 3, 1))
	for _, c := range []struct {
		tail  string
		lines int
	}{{"3 3 1", 2}, {"3 3 1\n", 2}, {"3 3 1099511627776\n% x\n\n", 4}} {
		input := title("pattern", "general") + "\n" + c.tail
		is(t, matrix, plain, 3, input, nil, behind(input, api.ErrCount, c.lines))
	}
}

// P8.2, FmtMatrix: I may be the same as J, or above it, where the matrix is symmetric; anything where it is general.
func TestMatrixSymmetry(t *testing.T) {
	is(t, matrix, real, 3, joined(title("real", "symmetric"), "3 3 3", "3 1 .5", "2 2 1", "3 2 1"), list(edge(2, 0, half), edge(0, 2, half), edge(1, 1, one), edge(2, 1, one), edge(1, 2, one)), right())
	is(t, matrix, real, 3, joined(title("real", "general"), "3 3 3", "1 3 .5", "2 2 1", "3 2 1"), list(edge(0, 2, half), edge(1, 1, one), edge(2, 1, one)), right())
}
