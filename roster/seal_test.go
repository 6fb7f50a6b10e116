package roster_test

import (
	"fmt"
	"hash/crc32"
	"strings"
	"testing"

	"sluice/api"
	"sluice/roster"
)

// P7.4, example 4.
func TestSeal(t *testing.T) {
	for _, text := range []string{"", "\n", "x", "x\n", "123456789", "a\n\n", "\xff\x00", "a\r\n", "a\r", "; seal 00000000", "; seal 00000000\n", "é"} {
		body := text
		if body != "" && !strings.HasSuffix(body, "\n") {
			body += "\n"
		}
		want := fmt.Sprintf("%s; seal %08x\n", body, crc32.ChecksumIEEE([]byte(body)))
		got, err := roster.Seal(text)
		if got != want || err != api.OK {
			t.Errorf("Seal(%q): %q, %d; not %q", text, got, err, want)
		}
		if back, err := roster.Unseal(got); back != body || err != api.OK {
			t.Errorf("Unseal(%q): %q, %d", got, back, err)
		}
	}
	if got, _ := roster.Seal(""); got != "; seal 00000000\n" {
		t.Errorf("Seal of nothing: %q", got)
	}
}

// P7.4: a number of few digits has zeros ahead.
func TestSealHasEightDigits(t *testing.T) {
	zeros := 0
	for i := range 3000 {
		text := fmt.Sprintln(i)
		sum := fmt.Sprintf("%08x", crc32.ChecksumIEEE([]byte(text)))
		if sum[0] == '0' {
			zeros++
		}
		if got, err := roster.Seal(text); got != text+"; seal "+sum+"\n" || err != api.OK {
			t.Fatalf("Seal(%q): %q %d", text, got, err)
		}
	}
	if zeros < 100 {
		t.Errorf("%d sums with a zero ahead", zeros)
	}
}

// P7.4: seals that are missing, cut, changed, or not at a line's beginning.
func TestUnsealRefuses(t *testing.T) {
	whole, _ := roster.Seal("[a]\nx = 1\n")
	bare := fmt.Sprintf("; seal %08x\n", crc32.ChecksumIEEE([]byte("x")))
	bad := []string{"", "\n", "x\n", strings.Repeat("x", 16), whole + "\n", whole + "x", whole + whole[10:], strings.ToUpper(whole), "x" + bare, "x; seal 00000000\n", "x\r; seal 00000000\n", " ; seal 00000000\n", "; seal 00000001\n", "; seal 0000000g\n", "; seal 00000000\r\n", "; seal 0000000\n", "; seal 000000000\n", ";  seal 0000000\n", "# seal 00000000\n", "; Seal 00000000\n", ";\tseal 00000000\n", "; seal 00000000", "; seal\n00000000\n", "; seal -0000000\n", "; seal +0000000\n", "; seal 0x000000\n"}
	for n := range len(whole) {
		bad = append(bad, whole[:n])
		if n > 0 {
			bad = append(bad, whole[n:])
		}
		for bit := range 8 {
			b := []byte(whole)
			b[n] ^= 1 << bit
			bad = append(bad, string(b))
		}
	}
	for _, text := range bad {
		if got, err := roster.Unseal(text); got != "" || err != api.ErrSeal {
			t.Errorf("Unseal(%q): %q, %d", text, got, err)
		}
	}
	// A digit may be a letter; the capital ones are none.
	for i := range 100 {
		text, _ := roster.Seal(fmt.Sprintln(i))
		high := text[:len(text)-9] + strings.ToUpper(text[len(text)-9:])
		if got, err := roster.Unseal(high); high != text && (got != "" || err != api.ErrSeal) {
			t.Errorf("Unseal(%q): %q, %d", high, got, err)
		}
	}
	// The number is the CRC, but not of a whole line.
	text := "x"
	text += fmt.Sprintf("; seal %08x\n", crc32.ChecksumIEEE([]byte(text)))
	if got, err := roster.Unseal(text); got != "" || err != api.ErrSeal {
		t.Errorf("Unseal(%q): %q, %d", text, got, err)
	}
}

// P7.4: the longest texts, and one byte more.
func TestLimitsOfSeals(t *testing.T) {
	rows := []struct {
		text string
		size int
		err  api.Errno
	}{
		{strings.Repeat("\n", api.MaxRoster-16), api.MaxRoster, api.OK},
		{strings.Repeat("\n", api.MaxRoster-15), 0, api.ErrLong},
		{strings.Repeat("x", api.MaxRoster-17), api.MaxRoster, api.OK},
		{strings.Repeat("x", api.MaxRoster-16), 0, api.ErrLong},
		{strings.Repeat("x", api.MaxRoster), 0, api.ErrLong},
		{strings.Repeat("x", 1<<24), 0, api.ErrLong},
	}
	for _, r := range rows {
		text, err := roster.Seal(r.text)
		if len(text) != r.size || err != r.err {
			t.Errorf("Seal of %d bytes: %d bytes, %d", len(r.text), len(text), err)
		}
		if err == api.OK {
			if back, err := roster.Unseal(text); len(back) != api.MaxRoster-16 || err != api.OK {
				t.Errorf("Unseal of %d bytes: %d bytes, %d", len(text), len(back), err)
			}
		}
	}
	body := strings.Repeat("\n", api.MaxRoster-15)
	long := fmt.Sprintf("%s; seal %08x\n", body, crc32.ChecksumIEEE([]byte(body)))
	if got, err := roster.Unseal(long); got != "" || err != api.ErrLong || len(long) != api.MaxRoster+1 {
		t.Errorf("Unseal of %d bytes: %d", len(long), err)
	}
	if got, err := roster.Unseal(strings.Repeat("x", api.MaxRoster)); got != "" || err != api.ErrSeal {
		t.Errorf("Unseal of no seal: %d", err)
	}
}
