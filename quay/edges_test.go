package quay_test

import (
	"slices"
	"strings"
	"testing"

	"sluice/api"
	"sluice/quay"
)

// texts are inputs of several edges in each format, for a graph of nine vertices and kind ECounted.
func texts() map[api.Format]string {
	return map[api.Format]string{
		bin:    numbers(1, 2, 3, 4, 5, 6, 7, 8, 9),
		snap:   "1 2 3\n#\n4 5 6\n7 8 9\n",
		dimacs: "p sp 9 3\na 2 3 3\nc\na 5 6 6\na 8 9 9\n",
		matrix: joined(title("integer", "general"), "9 9 3", "2 3 3", "%", "5 6 6", "8 9 9"),
	}
}

// P8.2: an iterator can be left at each edge, ranged over again, and nested.
func TestIterators(t *testing.T) {
	want := list(edge(1, 2, 3), edge(4, 5, 6), edge(7, 8, 9))
	for f, text := range texts() {
		it := quay.Edges(f, counted, 9, text)
		for stop := range 4 {
			var got []api.Edge
			for e, snag := range it {
				if len(got) == stop {
					break
				}
				if snag != right() {
					t.Fatalf("format %d: %v", f, snag)
				}
				got = append(got, e)
			}
			if !slices.Equal(got, want[:stop]) {
				t.Errorf("format %d, left at %d: %v", f, stop, got)
			}
		}
		var outer, inner []api.Edge
		for e := range it {
			outer = append(outer, e)
			for e := range it {
				inner = append(inner, e)
			}
		}
		if !slices.Equal(outer, want) || !slices.Equal(inner, slices.Concat(want, want, want)) {
			t.Errorf("format %d, nested: %v, %v", f, outer, inner)
		}
	}
}

// P8.2: an iterator that is left calls nobody again: at each edge, between the two of an entry that stands for both, and at the place of what is wrong.
func TestIteratorsAreLeft(t *testing.T) {
	inputs := map[string]api.Format{
		numbers(0, 1) + numbers(1, 0) + "\x00":        bin,
		numbers(0, 1) + numbers(9, 9) + numbers(0, 0): bin,
		"0 1\n1 0\nx\n0 0\n":                          snap,
		"p sp 3 3\na 1 2\na 2 1\n":                    dimacs,
		"q":                                           dimacs,
		"":                                            matrix,
		joined(title("pattern", "symmetric"), "3 3 3", "2 1", "3 1"):     matrix,
		joined(title("pattern", "symmetric"), "3 3 1", "2 1", "3 1", ""): matrix,
	}
	for input, f := range inputs {
		whole, _ := told(t, f, plain, 3, input)
		for stop := range len(whole) + 2 {
			calls := 0
			quay.Edges(f, plain, 3, input)(func(api.Edge, api.Snag) bool {
				calls++
				return calls <= stop
			})
			if want := min(stop, len(whole)) + 1; calls != want {
				t.Errorf("format %d, %q, left behind %d: %d calls, want %d", f, input, stop, calls, want)
			}
		}
	}
}

// P8.2: what is refused ahead of the input is told once, by an iterator that can be ranged over again.
func TestIteratorsOfNothing(t *testing.T) {
	for _, it := range []func(func(api.Edge, api.Snag) bool){quay.Edges(0, 1, 1, "x"), quay.Edges(1, 1, 0, "x")} {
		for range 2 {
			calls := 0
			for e, snag := range it {
				calls++
				if e != (api.Edge{}) || snag.Code == api.OK || snag != (api.Snag{Code: snag.Code}) {
					t.Errorf("%v, %v", e, snag)
				}
			}
			if calls != 1 {
				t.Errorf("%d calls", calls)
			}
		}
	}
}

// P8.3: how many, and the greatest vertex plus one, be it a Src or a Dst.
func TestCount(t *testing.T) {
	for _, c := range []struct {
		f            api.Format
		n            uint32
		input        string
		count, above int64
	}{
		{snap, 9, "", 0, 0}, {snap, 9, "0 0", 1, 1}, {snap, 9, "0 8\n1 2", 2, 9}, {snap, 9, "7 0\n1 2", 2, 8}, {snap, 9, "1 2\n0 3\n", 2, 4},
		{bin, api.MaxVertices, numbers(1<<31-2, 0), 1, 1<<31 - 1}, {bin, api.MaxVertices, numbers(0, 1<<31-2), 1, 1<<31 - 1},
		{dimacs, 9, "p sp 9 2\na 9 1\na 1 1", 2, 9}, {matrix, 9, joined(title("pattern", "symmetric"), "9 9 2", "5 1", "4 4"), 3, 5},
		{dimacs, 9, "p sp 9 0", 0, 0},
	} {
		if count, above, snag := quay.Count(c.f, plain, c.n, c.input); count != c.count || above != c.above || snag != right() {
			t.Errorf("Count(%d, %q): %d, %d, %v, want %d, %d", c.f, c.input, count, above, snag, c.count, c.above)
		}
	}
	if count, above, snag := quay.Count(snap, plain, 9, "1 2\n3 4\nx"); count != 0 || above != 0 || snag != (api.Snag{Code: api.ErrToken, Line: 3, Col: 1, At: 8}) {
		t.Errorf("%d, %d, %v", count, above, snag)
	}
}

// P8.2: an input of many lines, and one whose lines are many and empty.
func TestManyLines(t *testing.T) {
	many := strings.Repeat("1 2\r\n\n", 100000)
	if count, above, snag := quay.Count(snap, plain, 3, many); count != 100000 || above != 3 || snag != right() {
		t.Errorf("%d, %d, %v", count, above, snag)
	}
	if _, _, snag := quay.Count(snap, plain, 3, many+"1"); snag != (api.Snag{Code: api.ErrToken, Line: 200001, Col: 2, At: 600001}) {
		t.Errorf("%v", snag)
	}
}
