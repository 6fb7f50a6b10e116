package quay_test

import (
	"math/rand"
	"slices"
	"strings"
	"testing"

	"sluice/api"
	"sluice/quay"
)

// dressed tells the same as a text: with lines that tell nothing, blanks and tabs, \r, and zeros in front of integers.
func dressed(r *rand.Rand, f api.Format, text string) string {
	var b strings.Builder
	lines := strings.Split(strings.TrimSuffix(text, "\n"), "\n")
	for i, line := range lines {
		for r.Intn(3) == 0 && (f != matrix || i > 0) {
			b.WriteString(idle(r, f) + pick(r, "\n", "\r\n"))
		}
		b.WriteString(blanks(r, 0))
		for j, field := range strings.Split(line, " ") {
			if j > 0 {
				b.WriteString(blanks(r, 1))
			}
			b.WriteString(withZeros(r, field))
		}
		b.WriteString(blanks(r, 0))
		if i < len(lines)-1 {
			b.WriteString(pick(r, "\n", "\r\n"))
		}
	}
	b.WriteString(pick(r, "", "\n", "\r\n", "\r", "\n"+idle(r, f), "\r\n\r\n"+idle(r, f)+"\r"))
	return b.String()
}

// idle is a line that tells nothing.
func idle(r *rand.Rand, f api.Format) string {
	mark := map[api.Format][]string{snap: {"#"}, dimacs: {"c", " c", "c\t", "\tc "}, matrix: {"%", "%%"}}[f]
	full := pick(r, mark...)
	if f == dimacs {
		full += pick(r, "", " ", " x", "\t1 2 3", " p sp 3 1", " \r")
	} else {
		full += pick(r, "", "x", " 1 2 3", "\x00\xff", "\r", "#%")
	}
	return pick(r, "", " ", "\t \t", full, full+strings.Repeat(" ", api.MaxLine-len(full)))
}

func blanks(r *rand.Rand, least int) string {
	return strings.Repeat(pick(r, " ", "\t", " \t"), least+r.Intn(3))
}

// withZeros puts zeros in front of an integer, up to 19 digits.
func withZeros(r *rand.Rand, field string) string {
	digits := strings.TrimPrefix(field, "-")
	if strings.Trim(digits, "0123456789") != "" || digits == "" || r.Intn(2) == 0 {
		return field
	}
	return field[:len(field)-len(digits)] + strings.Repeat("0", pick(r, 1, 19-len(digits))) + digits
}

// P8.7: none of it changes an edge, or what the head says.
func TestDressed(t *testing.T) {
	r := dice(7)
	for range 20000 {
		n := pick(r, 1, 2, 10, uint32(1+r.Intn(1000)), api.MaxVertices)
		k := pick(r, kinds()...)
		f := pick(r, snap, dimacs, matrix)
		edges := anyEdges(r, k, n, 6)
		text := printed(t, f, k, n, edges)
		dress := dressed(r, f, text)
		if got, snag := told(t, f, k, n, dress); !slices.Equal(got, edges) || snag != right() {
			t.Fatalf("Edges(%d, %d, %d, %q): %v, %v, want %v", f, k, n, dress, got, snag, edges)
		}
		want, _ := quay.Head(f, k, text)
		headIs(t, f, k, dress, want, right())
	}
}

// P8.7: one byte more in a line, or one digit more in an integer, is one too many.
func TestDressedTooMuch(t *testing.T) {
	zeros := strings.Repeat("0", 18)
	for _, c := range []struct {
		f     api.Format
		input string
		line  int
		col   int
		err   api.Errno
	}{
		{snap, zeros + "01 1", 1, 1, api.ErrToken},
		{snap, "1 " + zeros + "01", 1, 3, api.ErrToken},
		{dimacs, "p sp " + zeros + "03 1", 1, 6, api.ErrHeader},
		{dimacs, "p sp 3 " + zeros + "01", 1, 8, api.ErrHeader},
		{matrix, title("pattern", "general") + "\n3 " + zeros + "03 1", 2, 3, api.ErrHeader},
	} {
		is(t, c.f, plain, 3, c.input, nil, at(c.input, c.err, c.line, c.col))
	}
}

// P8.8: what is told ahead of the first wrong thing, and where that is, does not hang on what comes behind that line or record.
func TestNothingBehindCounts(t *testing.T) {
	r := dice(8)
	wrong := 0
	for range 30000 {
		f, k, n := pick(r, formats()...), pick(r, kinds()...), uint32(1+r.Intn(5))
		input := anyInput(r, f, k, n)
		edges, snag := told(t, f, k, n, input)
		head, headSnag := quay.Head(f, k, input)
		if snag == right() || snag.Code == api.ErrRagged || snag.At == len(input) {
			continue
		}
		wrong++
		end := len(input)
		if f == bin {
			width := map[api.EdgeKind]int{plain: 8, counted: 12, real: 12}[k]
			end = snag.At/width*width + width
		} else if i := strings.IndexByte(input[snag.At:], '\n'); i >= 0 {
			end = snag.At + i + 1
		} else {
			input += "\n"
			end = len(input)
		}
		tail := pick(r, "", "x", "\n", "1 1\n", "p sp 3 1\na 1 1 1", anyInput(r, f, k, n), input, strings.Repeat("y", 3000), input[end:])
		got, where := told(t, f, k, n, input[:end]+tail)
		if !slices.Equal(got, edges) || where != snag {
			t.Fatalf("%d, %d, %d, %q with %q behind: %v, %v, want %v, %v", f, k, n, input[:end], tail, got, where, edges, snag)
		}
		if headSnag != right() {
			headIs(t, f, k, input[:end]+tail, head, headSnag)
		}
	}
	if wrong < 5000 {
		t.Errorf("only %d inputs were wrong", wrong)
	}
}
