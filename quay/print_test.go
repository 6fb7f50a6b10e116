package quay_test

import (
	"iter"
	"slices"
	"strings"
	"testing"

	"sluice/api"
	"sluice/quay"
)

// P8.4: each format with each kind.
func TestPrint(t *testing.T) {
	counts := list(edge(0, 1, 5), edge(2, 0, 1<<32-5))
	reals := list(edge(0, 1, half), edge(2, 2, minus), edge(1, 0, 0x3dcccccd))
	plains := list(edge(1, 0, 0), edge(1, 0, 0))
	for _, c := range []struct {
		f     api.Format
		k     api.EdgeKind
		edges []api.Edge
		want  string
	}{
		{bin, plain, plains, numbers(1, 0, 1, 0)},
		{bin, counted, counts, numbers(0, 1, 5, 2, 0, 1<<32-5)},
		{bin, real, reals, numbers(0, 1, half, 2, 2, minus, 1, 0, 0x3dcccccd)},
		{snap, plain, plains, "1 0\n1 0\n"},
		{snap, counted, counts, "0 1 5\n2 0 -5\n"},
		{snap, real, reals, "0 1 5.00000000e-01\n2 2 -0.00000000e+00\n1 0 1.00000001e-01\n"},
		{dimacs, plain, plains, "p sp 3 2\na 2 1 1\na 2 1 1\n"},
		{dimacs, counted, counts, "p sp 3 2\na 1 2 5\na 3 1 -5\n"},
		{dimacs, real, reals, "p sp 3 3\na 1 2 5.00000000e-01\na 3 3 -0.00000000e+00\na 2 1 1.00000001e-01\n"},
		{matrix, plain, plains, "%%MatrixMarket matrix coordinate pattern general\n3 3 2\n2 1\n2 1\n"},
		{matrix, counted, counts, "%%MatrixMarket matrix coordinate integer general\n3 3 2\n1 2 5\n3 1 -5\n"},
		{matrix, real, reals, "%%MatrixMarket matrix coordinate real general\n3 3 3\n1 2 5.00000000e-01\n3 3 -0.00000000e+00\n2 1 1.00000001e-01\n"},
		{bin, plain, nil, ""}, {snap, real, nil, ""}, {dimacs, plain, nil, "p sp 3 0\n"}, {matrix, real, nil, "%%MatrixMarket matrix coordinate real general\n3 3 0\n"},
	} {
		if text := printed(t, c.f, c.k, 3, c.edges); text != c.want {
			t.Errorf("Print(%d, %d, %v): %q, want %q", c.f, c.k, c.edges, text, c.want)
		}
	}
}

// P8.4: numbers at their bounds.
func TestPrintBounds(t *testing.T) {
	n := uint32(api.MaxVertices)
	for f, want := range map[api.Format]string{
		bin:    numbers(n-1, n-1, 1<<31, 0, 0, 1<<31-1),
		snap:   "2147483646 2147483646 -2147483648\n0 0 2147483647\n",
		dimacs: "p sp 2147483647 2\na 2147483647 2147483647 -2147483648\na 1 1 2147483647\n",
		matrix: "%%MatrixMarket matrix coordinate integer general\n2147483647 2147483647 2\n2147483647 2147483647 -2147483648\n1 1 2147483647\n",
	} {
		if text := printed(t, f, counted, n, list(edge(n-1, n-1, 1<<31), edge(0, 0, 1<<31-1))); text != want {
			t.Errorf("format %d: %q", f, text)
		}
	}
	if text := printed(t, snap, real, 1, list(edge(0, 0, greatest), edge(0, 0, minus|1))); text != "0 0 3.40282347e+38\n0 0 -1.40129846e-45\n" {
		t.Errorf("%q", text)
	}
}

// asked counts how many edges are asked for.
func asked(edges []api.Edge, count *int) iter.Seq[api.Edge] {
	return func(yield func(api.Edge) bool) {
		for _, e := range edges {
			*count++
			if !yield(e) {
				return
			}
		}
	}
}

// P8.4: edges that may not be printed, and that none is asked for behind the first of them.
func TestPrintRefuses(t *testing.T) {
	for _, c := range []struct {
		k     api.EdgeKind
		edges []api.Edge
		err   api.Errno
		asked int
	}{
		{plain, list(edge(0, 1, 0), edge(3, 0, 0), edge(0, 0, 1)), api.ErrNode, 2},
		{plain, list(edge(0, 3, 0)), api.ErrNode, 1},
		{plain, list(edge(1<<32-1, 0, 0)), api.ErrNode, 1},
		{plain, list(edge(0, 1<<32-1, 0)), api.ErrNode, 1},
		{plain, list(edge(0, 0, 1), edge(9, 9, 0)), api.ErrScale, 1},
		{plain, list(edge(3, 0, 1)), api.ErrNode, 1},
		{plain, list(edge(0, 3, 1)), api.ErrNode, 1},
		{counted, list(edge(0, 0, nan), edge(2, 2, infinite), edge(2, 3, 1)), api.ErrNode, 3},
		{real, list(edge(0, 0, one), edge(2, 2, infinite)), api.ErrScale, 2},
		{real, list(edge(0, 0, minus|infinite)), api.ErrScale, 1},
		{real, list(edge(0, 0, nan)), api.ErrScale, 1},
		{real, list(edge(0, 0, infinite+1)), api.ErrScale, 1},
		{real, list(edge(0, 0, 1<<32-1)), api.ErrScale, 1},
		{real, list(edge(3, 0, nan)), api.ErrNode, 1},
	} {
		for _, f := range formats() {
			count := 0
			text, err := quay.Print(f, c.k, 3, asked(append(slices.Clone(c.edges), edge(0, 0, 0)), &count))
			if text != "" || err != c.err || count != c.asked {
				t.Errorf("Print(%d, %d, %v): %q, %v, asked %d, want %v, %d", f, c.k, c.edges, text, err, count, c.err, c.asked)
			}
		}
	}
	for _, f := range formats() {
		for _, k := range kinds() {
			if text, err := quay.Print(f, k, 3, nil); text != "" || err != api.ErrNil {
				t.Errorf("Print(%d, %d, nil): %q, %v", f, k, text, err)
			}
		}
	}
}

// P8.4: as many edges as may be printed, and one more, be it whatever it is.
func TestPrintMost(t *testing.T) {
	text, err := quay.Print(snap, plain, 1, same(edge(0, 0, 0), api.MaxPrinted))
	if err != api.OK || text != strings.Repeat("0 0\n", api.MaxPrinted) {
		t.Errorf("%d edges: %d bytes, %v", api.MaxPrinted, len(text), err)
	}
	if text, err = quay.Print(dimacs, plain, 1, same(edge(0, 0, 0), api.MaxPrinted)); err != api.OK || !strings.HasPrefix(text, "p sp 1 4194304\na 1 1 1\n") || len(text) != 15+8*api.MaxPrinted {
		t.Errorf("%d edges: %d bytes, %v", api.MaxPrinted, len(text), err)
	}
	for _, last := range list(edge(0, 0, 0), edge(1, 0, 0), edge(0, 0, 1)) {
		count := 0
		more := func(yield func(api.Edge) bool) {
			for e := range same(edge(0, 0, 0), api.MaxPrinted) {
				count++
				if !yield(e) {
					return
				}
			}
			count++
			if yield(last) {
				t.Errorf("%v: more are asked for", last)
			}
		}
		if text, err := quay.Print(bin, plain, 1, more); text != "" || err != api.ErrLong || count != api.MaxPrinted+1 {
			t.Errorf("%v behind %d edges: %d bytes, %v, asked %d", last, api.MaxPrinted, len(text), err, count)
		}
	}
}

// P8.6: what is printed is read as the same edges, in every format, and printed again it is the same text.
func TestPrintedIsRead(t *testing.T) {
	r := dice(6)
	for range 2000 {
		n := pick(r, 1, 2, 10, uint32(1+r.Intn(1000)), api.MaxVertices)
		k := pick(r, kinds()...)
		edges := anyEdges(r, k, n, 12)
		for _, f := range formats() {
			text := printed(t, f, k, n, edges)
			is(t, f, k, n, text, edges, right())
			for _, to := range formats() {
				other, snag := quay.Convert(f, to, k, n, text)
				if other != printed(t, to, k, n, edges) || snag != right() {
					t.Fatalf("Convert(%d, %d, %d, %d, %q): %q, %v", f, to, k, n, text, other, snag)
				}
				if again, snag := quay.Convert(to, f, k, n, other); again != text || snag != right() {
					t.Fatalf("Convert(%d, %d, %d, %d, %q): %q, %v, want %q", to, f, k, n, other, again, snag, text)
				}
			}
		}
	}
}

// P8.6: whatever an input looks like, the print of its edges is a normal form.
func TestNormalForm(t *testing.T) {
	for _, c := range []struct {
		f     api.Format
		k     api.EdgeKind
		input string
		want  string
	}{
		{snap, counted, "# x\n 01\t2 -0\r\n\n2 1 007", "1 2 0\n2 1 7\n"},
		{snap, real, "1 2 1e0\n2 1 -.5", "1 2 1.00000000e+00\n2 1 -5.00000000e-01\n"},
		{dimacs, plain, "c\np sp 003 2\n\n a 1 2\na 2 1 77", "p sp 3 2\na 1 2 1\na 2 1 1\n"},
		{matrix, plain, "%%MatrixMarket MATRIX coordinate Real Symmetric\n%\n3 3 2\n2 1 .5\n3 3 7", joined(title("pattern", "general"), "3 3 3", "2 1", "1 2", "3 3")},
		{matrix, real, "%%MatrixMarket matrix coordinate integer symmetric\n3 3 1\n2 1 4", joined(title("real", "general"), "3 3 2", "2 1 4.00000000e+00", "1 2 4.00000000e+00")},
		{matrix, counted, "%%MatrixMarket matrix coordinate pattern general\n3 3 1\n1 2", joined(title("integer", "general"), "3 3 1", "1 2 1")},
	} {
		text, snag := quay.Convert(c.f, c.f, c.k, 3, c.input)
		if text != c.want || snag != right() {
			t.Errorf("Convert(%d, %d, %q): %q, %v, want %q", c.f, c.k, c.input, text, snag, c.want)
		}
		if again, snag := quay.Convert(c.f, c.f, c.k, 3, text); again != text || snag != right() {
			t.Errorf("Convert(%d, %d, %q): %q, %v", c.f, c.k, text, again, snag)
		}
	}
}
