package quay_test

import (
	"iter"
	"math/rand"
	"slices"
	"strings"
	"testing"

	"sluice/api"
	"sluice/quay"
)

const (
	bin, snap, dimacs, matrix = api.FmtBinary, api.FmtSnap, api.FmtDimacs, api.FmtMatrix
	plain, counted, real      = api.EPlain, api.ECounted, api.EReal
)

const (
	one      = 0x3f800000 // 1.0
	half     = 0x3f000000 // 0.5
	infinite = 0x7f800000
	nan      = 0x7fc00000
	greatest = 0x7f7fffff // of the finite float32
	minus    = 1 << 31    // the sign bit
)

func formats() []api.Format { return []api.Format{bin, snap, dimacs, matrix} }

func kinds() []api.EdgeKind { return []api.EdgeKind{plain, counted, real} }

// told goes over an input: the edges, and the place that came as the last.
func told(t *testing.T, f api.Format, k api.EdgeKind, n uint32, input string) ([]api.Edge, api.Snag) {
	t.Helper()
	var edges []api.Edge
	var last api.Snag
	for e, snag := range quay.Edges(f, k, n, input) {
		if last != (api.Snag{}) {
			t.Fatalf("Edges(%d, %d, %d, %.200q): goes on behind %v", f, k, n, input, last)
		}
		if snag == (api.Snag{}) {
			edges = append(edges, e)
		} else if e != (api.Edge{}) {
			t.Fatalf("Edges(%d, %d, %d, %.200q): %v beside %v", f, k, n, input, e, snag)
		}
		last = snag
	}
	return edges, last
}

// is asks Edges and Count of an input.
func is(t *testing.T, f api.Format, k api.EdgeKind, n uint32, input string, want []api.Edge, where api.Snag) {
	t.Helper()
	edges, snag := told(t, f, k, n, input)
	if !slices.Equal(edges, want) || snag != where {
		t.Errorf("Edges(%d, %d, %d, %.200q): %v, %v, want %v, %v", f, k, n, input, edges, snag, want, where)
	}
	var count, above int64
	if where == (api.Snag{}) {
		count = int64(len(want))
		for _, e := range want {
			above = max(above, int64(e.Src)+1, int64(e.Dst)+1)
		}
	}
	if c, a, snag := quay.Count(f, k, n, input); c != count || a != above || snag != where {
		t.Errorf("Count(%d, %d, %d, %.200q): %d, %d, %v, want %d, %d, %v", f, k, n, input, c, a, snag, count, above, where)
	}
}

// list is some edges.
func list(es ...api.Edge) []api.Edge { return es }

// edge is one of them.
func edge(src, dst, w uint32) api.Edge { return api.Edge{Src: src, Dst: dst, W: w} }

// at is a place in a text of lines: the line and the byte of it.
func at(input string, err api.Errno, line, col int) api.Snag {
	before := 0
	for range line - 1 {
		before += strings.IndexByte(input[before:], '\n') + 1
	}
	return api.Snag{Code: err, Line: line, Col: col, At: before + col - 1}
}

// behind is the place behind an input of so many lines.
func behind(input string, err api.Errno, lines int) api.Snag {
	return api.Snag{Code: err, Line: lines + 1, Col: 1, At: len(input)}
}

// right is the place of nothing wrong.
func right() api.Snag { return api.Snag{} }

// joined are lines, each ended by a byte 10.
func joined(lines ...string) string { return strings.Join(lines, "\n") + "\n" }

// title is Matrix Market's first line.
func title(field, symmetry string) string {
	return "%%MatrixMarket matrix coordinate " + field + " " + symmetry
}

// numbers lays numbers down, four bytes each.
func numbers(us ...uint32) string {
	var b []byte
	for _, u := range us {
		b = append(b, byte(u), byte(u>>8), byte(u>>16), byte(u>>24))
	}
	return string(b)
}

// printed prints edges that may be printed.
func printed(t *testing.T, f api.Format, k api.EdgeKind, n uint32, edges []api.Edge) string {
	t.Helper()
	text, err := quay.Print(f, k, n, slices.Values(edges))
	if err != api.OK {
		t.Fatalf("Print(%d, %d, %d, %v): %v", f, k, n, edges, err)
	}
	return text
}

// same are so many edges that are alike.
func same(e api.Edge, times int) iter.Seq[api.Edge] {
	return func(yield func(api.Edge) bool) {
		for range times {
			if !yield(e) {
				return
			}
		}
	}
}

func dice(seed int64) *rand.Rand { return rand.New(rand.NewSource(seed)) }

func pick[T any](r *rand.Rand, from ...T) T { return from[r.Intn(len(from))] }

// anyEdges are up to most edges of a graph of n vertices and a kind.
func anyEdges(r *rand.Rand, k api.EdgeKind, n uint32, most int) []api.Edge {
	var edges []api.Edge
	for range r.Intn(most + 1) {
		e := api.Edge{Src: anyVertex(r, n), Dst: anyVertex(r, n)}
		switch k {
		case counted:
			e.W = pick(r, r.Uint32(), uint32(r.Intn(20)), -uint32(r.Intn(20)), 1<<31, 1<<31-1)
		case real:
			e.W = pick(r, r.Uint32(), one, half, greatest, minus|greatest, minus, 0, 1, minus|1)
			if e.W&infinite == infinite {
				e.W &^= 1 << 30
			}
		}
		edges = append(edges, e)
	}
	return edges
}

func anyVertex(r *rand.Rand, n uint32) uint32 {
	return pick(r, 0, n-1, uint32(r.Int63n(int64(n))))
}
