package quay_test

import (
	"strings"
	"testing"

	"sluice/api"
	"sluice/quay"
)

// P8.5: from each format into each.
func TestConvert(t *testing.T) {
	want := list(edge(1, 2, 3), edge(4, 5, 6), edge(7, 8, 9))
	for from, input := range texts() {
		for _, to := range formats() {
			text, snag := quay.Convert(from, to, counted, 9, input)
			if text != printed(t, to, counted, 9, want) || snag != right() {
				t.Errorf("Convert(%d, %d): %q, %v", from, to, text, snag)
			}
		}
	}
}

// P8.5: what is wrong is told with its place, and no text, whatever stands ahead of it.
func TestConvertWrong(t *testing.T) {
	for _, c := range []struct {
		f     api.Format
		input string
		where api.Snag
	}{
		{bin, numbers(0, 1) + "\x00", api.Snag{Code: api.ErrRagged, At: 8}},
		{bin, numbers(0, 1, 0, 3), api.Snag{Code: api.ErrNode, At: 12}},
		{snap, "0 1\n0 9", api.Snag{Code: api.ErrNode, Line: 2, Col: 3, At: 6}},
		{dimacs, "p sp 3 2\na 1 1", api.Snag{Code: api.ErrCount, Line: 3, Col: 1, At: 14}},
		{dimacs, "p sp 4 0", api.Snag{Code: api.ErrHeader, Line: 1, Col: 6, At: 5}},
		{matrix, title("pattern", "general") + "\n4 4 0", api.Snag{Code: api.ErrHeader, Line: 2, Col: 1, At: 49}},
	} {
		for _, to := range formats() {
			if text, snag := quay.Convert(c.f, to, plain, 3, c.input); text != "" || snag != c.where {
				t.Errorf("Convert(%d, %d, %q): %q, %v, want %v", c.f, to, c.input, text, snag, c.where)
			}
		}
	}
}

// P8.5: as many edges as may be printed; one more; and what is wrong in its place, ahead of it or behind it.
func TestConvertMost(t *testing.T) {
	full := strings.Repeat("0 0\n", api.MaxPrinted)
	long := api.Snag{Code: api.ErrLong}
	line := api.MaxPrinted + 1
	for _, c := range []struct {
		tail  string
		where api.Snag
	}{
		{"", right()},
		{"# x\n", right()},
		{"0 0\n", long},
		{"0 0\nx", long},
		{"x\n0 0", api.Snag{Code: api.ErrToken, Line: line, Col: 1, At: len(full)}},
		{"0 1\n0 0", api.Snag{Code: api.ErrNode, Line: line, Col: 3, At: len(full) + 2}},
		{"#\n0 x", api.Snag{Code: api.ErrToken, Line: line + 1, Col: 3, At: len(full) + 4}},
	} {
		text, snag := quay.Convert(snap, bin, plain, 1, full+c.tail)
		if snag != c.where || (snag != right()) != (text == "") || text != "" && len(text) != 8*api.MaxPrinted {
			t.Errorf("%q behind: %d bytes, %v, want %v", c.tail, len(text), snag, c.where)
		}
	}
	if text, snag := quay.Convert(snap, bin, plain, 1, "x\n"+full+"0 0\n"); text != "" || snag != (api.Snag{Code: api.ErrToken, Line: 1, Col: 1}) {
		t.Errorf("%d bytes, %v", len(text), snag)
	}
	if text, snag := quay.Convert(bin, snap, plain, 1, strings.Repeat("\x00", 8*api.MaxPrinted)+"\x00"); text != "" || snag != (api.Snag{Code: api.ErrRagged, At: 8 * api.MaxPrinted}) {
		t.Errorf("%d bytes, %v", len(text), snag)
	}
}

// P8.5: of an entry that stands for two edges, the second may be the one too many; what is wrong with the number of entries goes ahead of it, if it is met ahead of it.
func TestConvertMostByTwos(t *testing.T) {
	entries := func(said, loops, tail string) string {
		return title("pattern", "symmetric") + "\n2 2 " + said + "\n" + loops + strings.Repeat("2 1\n", api.MaxPrinted/2-1) + tail
	}
	loop, twice := "1 1\n", "2 1\n"
	full := entries("2097154", loop+loop, "")
	over := entries("2097152", loop, twice)
	for _, c := range []struct {
		input string
		where api.Snag
	}{
		{entries("2097153", loop+loop, ""), right()},
		{entries("2097152", "", twice), right()},
		{full, behind(full, api.ErrCount, 2+2097153)},
		{entries("2097153", loop, twice), api.Snag{Code: api.ErrLong}},
		{entries("2097154", loop, twice), api.Snag{Code: api.ErrLong}},
		{over, api.Snag{Code: api.ErrCount, Line: 2 + 2097153, Col: 1, At: len(over) - len(twice)}},
	} {
		if text, snag := quay.Convert(matrix, bin, plain, 2, c.input); snag != c.where || (text == "") != (snag != right()) {
			t.Errorf("%d bytes, %v, want %v", len(text), snag, c.where)
		}
	}
}
