package quay_test

import (
	"strings"
	"testing"

	"sluice/api"
	"sluice/quay"
)

// headIs asks Head of an input.
func headIs(t *testing.T, f api.Format, k api.EdgeKind, input string, want api.Header, where api.Snag) {
	t.Helper()
	if h, snag := quay.Head(f, k, input); h != want || snag != where {
		t.Errorf("Head(%d, %d, %.200q): %v, %v, want %v, %v", f, k, input, h, snag, want, where)
	}
}

// P8.1: what each format says of itself, for each kind.
func TestHead(t *testing.T) {
	unsaid := api.Header{N: -1, Edges: -1}
	for _, k := range kinds() {
		for _, input := range []string{"", "x", "\x00", "1 2 3", "p sp 3 1\n", strings.Repeat("x", 5000)} {
			headIs(t, bin, k, input, unsaid, right())
			headIs(t, snap, k, input, unsaid, right())
		}
		for _, end := range []string{"", "\n", "\r\n", "\r", "\nrubbish", "\n" + strings.Repeat("x", 5000)} {
			headIs(t, dimacs, k, "c\np sp 3 9"+end, api.Header{N: 3, Edges: 9}, right())
			headIs(t, matrix, k, title("pattern", "general")+"\n%\n3 3 9"+end, api.Header{N: 3, Edges: 9, Field: "pattern"}, right())
			headIs(t, matrix, k, title("integer", "symmetric")+"\n3 3 9"+end, api.Header{N: 3, Edges: 9, Twice: true, Field: "integer"}, right())
		}
	}
	headIs(t, matrix, real, title("real", "symmetric")+"\n3 3 9", api.Header{N: 3, Edges: 9, Twice: true, Field: "real"}, right())
	headIs(t, matrix, plain, title("Real", "General")+"\n3 3 9", api.Header{N: 3, Edges: 9, Field: "real"}, right())
	headIs(t, matrix, plain, "%%MatrixMarket matrix coordinate Pattern Symmetric\n% c\n3 3 2\n2 1\n3 3\n", api.Header{N: 3, Edges: 2, Twice: true, Field: "pattern"}, right())
}

// P8.1: the bounds of what a head may say.
func TestHeadBounds(t *testing.T) {
	for _, n := range []struct {
		text string
		n    int64
	}{{"1", 1}, {"2147483647", 1<<31 - 1}, {"0000000000000000001", 1}} {
		for _, m := range []struct {
			text string
			m    int64
		}{{"0", 0}, {"-0", 0}, {"1099511627776", 1 << 40}, {"1099511627775", 1<<40 - 1}, {"0000000000000000007", 7}} {
			headIs(t, dimacs, plain, "p sp "+n.text+" "+m.text, api.Header{N: n.n, Edges: m.m}, right())
			headIs(t, matrix, plain, title("pattern", "general")+"\n"+n.text+" "+n.text+" "+m.text, api.Header{N: n.n, Edges: m.m, Field: "pattern"}, right())
		}
	}
}

// P8.1: a line ahead of the head that is wrong is told.
func TestHeadLinesAhead(t *testing.T) {
	long := strings.Repeat(" ", api.MaxLine+1)
	for _, c := range []struct {
		f     api.Format
		input string
		err   api.Errno
		line  int
		col   int
	}{
		{dimacs, "c\n" + long + "\np sp 3 0", api.ErrLong, 2, 1},
		{dimacs, "c" + long + "\np sp 3 0", api.ErrLong, 1, 1},
		{dimacs, "c\n\tq\np sp 3 0", api.ErrLine, 2, 2},
		{dimacs, "c\na 1 2 3\np sp 3 0", api.ErrHeader, 2, 1},
		{dimacs, "p sp 3 0" + long, api.ErrLong, 1, 1},
		{matrix, title("pattern", "general") + long + "\n3 3 0", api.ErrLong, 1, 1},
		{matrix, title("pattern", "general") + "\n%" + long + "\n3 3 0", api.ErrLong, 2, 1},
		{matrix, title("pattern", "general") + "\n3 3 0" + long, api.ErrLong, 2, 1},
		{matrix, "\n" + title("pattern", "general") + "\n3 3 0", api.ErrHeader, 1, 1},
		{matrix, "% x\n" + title("pattern", "general") + "\n3 3 0", api.ErrHeader, 1, 1},
	} {
		headIs(t, c.f, plain, c.input, api.Header{}, at(c.input, c.err, c.line, c.col))
		is(t, c.f, plain, 3, c.input, nil, at(c.input, c.err, c.line, c.col))
	}
}

// P8.1 to P8.5: formats and kinds that are none, and numbers of vertices that may not be.
func TestNoneOfThem(t *testing.T) {
	least, most := -1<<63, 1<<63-1
	input := "p sp 3 0"
	refuses := func(f api.Format, k api.EdgeKind, n uint32, err api.Errno) {
		t.Helper()
		where := api.Snag{Code: err}
		is(t, f, k, n, input, nil, where)
		if text, e := quay.Print(f, k, n, nil); text != "" || e != err {
			t.Errorf("Print(%d, %d, %d, nil): %q, %v, want %v", f, k, n, text, e, err)
		}
		for _, other := range formats() {
			if text, snag := quay.Convert(f, other, k, n, input); text != "" || snag != where {
				t.Errorf("Convert(%d, %d, %d, %d): %q, %v, want %v", f, other, k, n, text, snag, where)
			}
			if text, snag := quay.Convert(other, f, k, n, input); text != "" || snag != where {
				t.Errorf("Convert(%d, %d, %d, %d): %q, %v, want %v", other, f, k, n, text, snag, where)
			}
		}
	}
	for _, n := range []uint32{0, 1, 3, 1<<31 - 1, 1 << 31, 1<<32 - 1} {
		for _, f := range []api.Format{0, 5, -1, api.Format(least), api.Format(most), 1 << 32, 1<<32 + 1, 257} {
			for _, k := range []api.EdgeKind{1, 2, 3, 0, 4} {
				refuses(f, k, n, api.ErrFormat)
				headIs(t, f, k, input, api.Header{}, api.Snag{Code: api.ErrFormat})
			}
		}
		for _, k := range []api.EdgeKind{0, 4, -1, api.EdgeKind(least), api.EdgeKind(most), 1 << 32, 1<<32 + 1, 257} {
			for _, f := range formats() {
				refuses(f, k, n, api.ErrFormat)
				headIs(t, f, k, input, api.Header{}, api.Snag{Code: api.ErrFormat})
			}
		}
	}
	for _, n := range []uint32{0, 1 << 31, 1<<31 + 1, 1<<32 - 1} {
		for _, f := range formats() {
			for _, k := range kinds() {
				refuses(f, k, n, api.ErrArg)
			}
		}
	}
}
