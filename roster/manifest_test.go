package roster_test

import (
	"fmt"
	"math"
	"math/rand"
	"slices"
	"strings"
	"testing"

	"sluice/api"
	"sluice/roster"
)

func someGraph() api.GraphMark {
	return api.GraphMark{
		Graph: api.Graph{Name: "g", N: 5, Kind: api.ECounted, Parts: 2, Both: true, Edges: 7, Sum: 0xab},
		Files: []api.FileMark{{Name: "g-e-0000", Records: 7, Sum: 1}, {Name: "g.b_0", Records: 0, Sum: 0xdeadbeef}},
	}
}

func someRun() api.RunMark {
	return api.RunMark{
		Run: "r", Graph: "g", GraphSum: 0xab, Code: 0xffffffff, Words: 3, Gen: 12, Round: 12, Done: true,
		Ctl: api.Ctl{1, 0, math.MaxUint64, 1 << 63}, Agg: api.State{7, 0xabcdef},
		Stats: api.Stats{Rounds: 12, Edges: math.MaxUint64, Updates: 4, Changed: 0},
		Files: []api.FileMark{{Name: "r-s-0000012-0000", Records: 5, Sum: 2}},
	}
}

func sameGraph(a, b api.GraphMark) bool { return a.Graph == b.Graph && slices.Equal(a.Files, b.Files) }

func sameRun(a, b api.RunMark) bool {
	files := slices.Equal(a.Files, b.Files)
	a.Files, b.Files = nil, nil
	return files && fmt.Sprint(a) == fmt.Sprint(b)
}

// sealOn seals a text.
func sealOn(t *testing.T, text string) string {
	t.Helper()
	s, err := roster.Seal(text)
	if err != api.OK {
		t.Fatalf("Seal: %d", err)
	}
	return s
}

const graphText = `[graph]
name = g
n = 5
kind = counted
parts = 2
both = yes
edges = 7
sum = 000000ab

[files.0]
f0 = g-e-0000 7 00000001
f1 = g.b_0 0 deadbeef
`

const runText = `[run]
run = r
graph = g
graphsum = 000000ab
code = ffffffff
words = 3
gen = 12
round = 12
done = yes
ctl = 0000000000000001 0000000000000000 ffffffffffffffff 8000000000000000
agg = 0000000000000007 0000000000abcdef 0000000000000000 0000000000000000 0000000000000000 0000000000000000 0000000000000000 0000000000000000
rounds = 12
edges = 18446744073709551615
updates = 4
changed = 0

[files.0]
f0 = r-s-0000012-0000 5 00000002
`

// P7.11, P7.12: the texts, and what is read of them.
func TestManifests(t *testing.T) {
	m, r := someGraph(), someRun()
	text, err := roster.FromGraph(m)
	if text != sealOn(t, graphText) || err != api.OK {
		t.Errorf("FromGraph: %q, %d", text, err)
	}
	if got, err := roster.ToGraph(text); !sameGraph(got, m) || err != api.OK {
		t.Errorf("ToGraph: %v, %d", got, err)
	}
	text, err = roster.FromRun(r)
	if text != sealOn(t, runText) || err != api.OK {
		t.Errorf("FromRun: %q, %d", text, err)
	}
	if got, err := roster.ToRun(text); !sameRun(got, r) || err != api.OK {
		t.Errorf("ToRun: %v, %d", got, err)
	}
	for i, word := range []string{"plain", "counted", "real"} {
		m.Graph.Kind, m.Graph.Both = api.EdgeKind(i+1), i == 1
		text, _ := roster.FromGraph(m)
		both := map[bool]string{true: "yes", false: "no"}[m.Graph.Both]
		if !strings.Contains(text, "\nkind = "+word+"\nparts = 2\nboth = "+both+"\n") {
			t.Errorf("kind %d: %q", i+1, text)
		}
	}
	r.Done = false
	if text, _ := roster.FromRun(r); !strings.Contains(text, "\ndone = no\n") {
		t.Errorf("a run that is not done: %q", text)
	}
}

// filesOf are so many files.
func filesOf(n int) []api.FileMark {
	var files []api.FileMark
	for i := range n {
		files = append(files, api.FileMark{Name: fmt.Sprintf("f-%d.x_", i), Records: int64(i) * 1000003, Sum: uint32(i) * 2654435761})
	}
	return files
}

// P7.11, P7.12: sections of 64 files.
func TestFilesOfManifests(t *testing.T) {
	for _, n := range []int{0, 1, 2, 63, 64, 65, 127, 128, 129, 1000, 1023, 1024} {
		want := ""
		for i, f := range filesOf(n) {
			if i%64 == 0 {
				want += fmt.Sprintf("\n[files.%d]\n", i/64)
			}
			want += fmt.Sprintf("f%d = %s %d %08x\n", i%64, f.Name, f.Records, f.Sum)
		}
		m, r := someGraph(), someRun()
		m.Files, r.Files = filesOf(n), filesOf(n)
		head, _, _ := strings.Cut(graphText, "\n[files")
		text, err := roster.FromGraph(m)
		if text != sealOn(t, head+want) || err != api.OK {
			t.Errorf("a graph of %d files: %.300q, %d", n, text, err)
		}
		if got, err := roster.ToGraph(text); !sameGraph(got, m) || err != api.OK {
			t.Errorf("a graph of %d files, read again: %d", n, err)
		}
		head, _, _ = strings.Cut(runText, "\n[files")
		text, err = roster.FromRun(r)
		if text != sealOn(t, head+want) || err != api.OK {
			t.Errorf("a run of %d files: %.300q, %d", n, text, err)
		}
		if got, err := roster.ToRun(text); !sameRun(got, r) || err != api.OK {
			t.Errorf("a run of %d files, read again: %d", n, err)
		}
	}
}

// P7.11: everything of a graph at its bound, and one beyond.
func TestGraphsThatMayBe(t *testing.T) {
	change := func(f func(*api.GraphMark)) api.GraphMark {
		m := someGraph()
		f(&m)
		return m
	}
	file := func(name string, records int64) func(*api.GraphMark) {
		return func(m *api.GraphMark) { m.Files[1] = api.FileMark{Name: name, Records: records} }
	}
	right := []func(*api.GraphMark){
		func(m *api.GraphMark) { m.Graph.Name = "abcdefghijklmnop" },
		func(m *api.GraphMark) { m.Graph.Name = "0_" },
		func(m *api.GraphMark) { m.Graph.N, m.Graph.Parts = 1, 1 },
		func(m *api.GraphMark) { m.Graph.N = math.MaxInt32 },
		func(m *api.GraphMark) { m.Graph.Parts = 5 },
		func(m *api.GraphMark) { m.Graph.Parts, m.Graph.N = 512, 512 },
		func(m *api.GraphMark) { m.Graph.Edges = 0 },
		func(m *api.GraphMark) { m.Graph.Edges = 1 << 40 },
		func(m *api.GraphMark) { m.Graph.Sum = math.MaxUint32 },
		func(m *api.GraphMark) { m.Graph.Sum = 0 },
		func(m *api.GraphMark) { m.Files = nil },
		func(m *api.GraphMark) { m.Files = []api.FileMark{} },
		func(m *api.GraphMark) { m.Files[1] = m.Files[0] }, // nothing says that they are unlike
		file("-", 0), file(".", 1<<60), file("_.-09az", 1), file(strings.Repeat("f", 32), 1), file("new", math.MaxInt32),
	}
	wrong := []func(*api.GraphMark){
		func(m *api.GraphMark) { m.Graph.Name = "" },
		func(m *api.GraphMark) { m.Graph.Name = "G" },
		func(m *api.GraphMark) { m.Graph.Name = "a-b" },
		func(m *api.GraphMark) { m.Graph.Name = "a\nn = 6" },
		func(m *api.GraphMark) { m.Graph.Name = "abcdefghijklmnopq" },
		func(m *api.GraphMark) { m.Graph.N = 0 },
		func(m *api.GraphMark) { m.Graph.N = 1 << 31 },
		func(m *api.GraphMark) { m.Graph.N = math.MaxUint32 },
		func(m *api.GraphMark) { m.Graph.Kind = 0 },
		func(m *api.GraphMark) { m.Graph.Kind = 4 },
		func(m *api.GraphMark) { m.Graph.Kind = -1 },
		func(m *api.GraphMark) { m.Graph.Kind = math.MinInt },
		func(m *api.GraphMark) { m.Graph.Kind = math.MaxInt },
		func(m *api.GraphMark) { m.Graph.Parts = 0 },
		func(m *api.GraphMark) { m.Graph.Parts = -1 },
		func(m *api.GraphMark) { m.Graph.Parts = math.MinInt },
		func(m *api.GraphMark) { m.Graph.Parts = 6 },
		func(m *api.GraphMark) { m.Graph.Parts, m.Graph.N = 513, 600 },
		func(m *api.GraphMark) { m.Graph.Parts, m.Graph.N = 1<<32+1, 600 },
		func(m *api.GraphMark) { m.Graph.Edges = -1 },
		func(m *api.GraphMark) { m.Graph.Edges = 1<<40 + 1 },
		func(m *api.GraphMark) { m.Graph.Edges = math.MinInt64 },
		func(m *api.GraphMark) { m.Files = filesOf(1025) },
		func(m *api.GraphMark) { m.Files = make([]api.FileMark, 1) },
		file("", 0), file("F", 0), file("a b", 0), file("a/b", 0), file("é", 0), file("a\n", 0), file(strings.Repeat("f", 33), 0), file("f", -1), file("f", 1<<60+1), file("f", math.MinInt64), file("f", math.MaxInt64),
	}
	for i, f := range right {
		m := change(f)
		text, err := roster.FromGraph(m)
		if err != api.OK {
			t.Errorf("right %d: %d", i, err)
		}
		if got, err := roster.ToGraph(text); !sameGraph(got, m) || err != api.OK {
			t.Errorf("right %d, read again: %v, %d", i, got, err)
		}
	}
	for i, f := range wrong {
		if text, err := roster.FromGraph(change(f)); text != "" || err != api.ErrField {
			t.Errorf("wrong %d: %q, %d", i, text, err)
		}
	}
	if text, err := roster.FromGraph(api.GraphMark{}); text != "" || err != api.ErrField {
		t.Errorf("nothing at all: %q, %d", text, err)
	}
}

// P7.12: everything of a run at its bound, and one beyond.
func TestRunsThatMayBe(t *testing.T) {
	change := func(f func(*api.RunMark)) api.RunMark {
		m := someRun()
		f(&m)
		return m
	}
	at := func(round int) func(*api.RunMark) {
		return func(m *api.RunMark) { m.Gen, m.Round, m.Stats.Rounds = round, round, round }
	}
	right := []func(*api.RunMark){
		func(m *api.RunMark) { m.Run, m.Graph = "abcdefghijklmnop", "0_" },
		func(m *api.RunMark) { m.Words = 1 },
		func(m *api.RunMark) { m.Words = 8 },
		func(m *api.RunMark) { m.GraphSum, m.Code = math.MaxUint32, 0 },
		func(m *api.RunMark) { m.Ctl, m.Agg = api.Ctl{}, api.State{} },
		func(m *api.RunMark) { m.Agg = api.State{1, 2, 3, 4, 5, 6, 7, math.MaxUint64} },
		func(m *api.RunMark) { m.Stats.Edges, m.Stats.Updates, m.Stats.Changed = 0, math.MaxUint64, 1<<63 },
		func(m *api.RunMark) { m.Files = nil },
		at(0), at(1), at(1 << 20),
	}
	wrong := []func(*api.RunMark){
		func(m *api.RunMark) { m.Run = "" },
		func(m *api.RunMark) { m.Run = "R" },
		func(m *api.RunMark) { m.Run = "abcdefghijklmnopq" },
		func(m *api.RunMark) { m.Graph = "" },
		func(m *api.RunMark) { m.Graph = "a.b" },
		func(m *api.RunMark) { m.Words = 0 },
		func(m *api.RunMark) { m.Words = 9 },
		func(m *api.RunMark) { m.Words = math.MinInt },
		func(m *api.RunMark) { m.Gen = 11 },
		func(m *api.RunMark) { m.Gen = 13 },
		func(m *api.RunMark) { m.Round = 13 },
		func(m *api.RunMark) { m.Stats.Rounds = 11 },
		func(m *api.RunMark) { m.Stats.Rounds = 13 },
		func(m *api.RunMark) { m.Gen, m.Round = 13, 13 },
		func(m *api.RunMark) { m.Files = filesOf(1025) },
		func(m *api.RunMark) { m.Files[0].Name = "A" },
		func(m *api.RunMark) { m.Files[0].Records = -1 },
		at(-1), at(1<<20 + 1), at(math.MinInt), at(math.MaxInt),
	}
	for i, f := range right {
		m := change(f)
		text, err := roster.FromRun(m)
		if err != api.OK {
			t.Errorf("right %d: %d", i, err)
		}
		if got, err := roster.ToRun(text); !sameRun(got, m) || err != api.OK {
			t.Errorf("right %d, read again: %v, %d", i, got, err)
		}
	}
	for i, f := range wrong {
		if text, err := roster.FromRun(change(f)); text != "" || err != api.ErrField {
			t.Errorf("wrong %d: %q, %d", i, text, err)
		}
	}
}

// P7.11, 'Bound and counters': the longest manifests are short enough.
func TestLongestManifests(t *testing.T) {
	long := make([]api.FileMark, api.MaxMarks)
	for i := range long {
		long[i] = api.FileMark{Name: strings.Repeat("f", 32), Records: 1 << 60, Sum: math.MaxUint32}
	}
	m := api.GraphMark{Graph: api.Graph{Name: "abcdefghijklmnop", N: math.MaxInt32, Kind: api.ECounted, Parts: 512, Both: true, Edges: 1 << 40, Sum: math.MaxUint32}, Files: long}
	text, err := roster.FromGraph(m)
	if err != api.OK || len(text) > api.MaxRoster {
		t.Errorf("a graph: %d bytes, %d", len(text), err)
	}
	if got, err := roster.ToGraph(text); !sameGraph(got, m) || err != api.OK {
		t.Errorf("a graph, read again: %d", err)
	}
	r := api.RunMark{Run: "abcdefghijklmnop", Graph: "abcdefghijklmnop", GraphSum: math.MaxUint32, Code: math.MaxUint32, Words: 8, Gen: 1 << 20, Round: 1 << 20, Done: true, Files: long}
	for i := range 8 {
		r.Ctl[i%4], r.Agg[i] = math.MaxUint64, math.MaxUint64
	}
	r.Stats = api.Stats{Rounds: 1 << 20, Edges: math.MaxUint64, Updates: math.MaxUint64, Changed: math.MaxUint64}
	text, err = roster.FromRun(r)
	if err != api.OK || len(text) > api.MaxRoster {
		t.Errorf("a run: %d bytes, %d", len(text), err)
	}
	if got, err := roster.ToRun(text); !sameRun(got, r) || err != api.OK {
		t.Errorf("a run, read again: %d", err)
	}
}

// notWritten are texts near a manifest's that no mark has.
func notWritten(text string) []string {
	var all []string
	change := func(old, new string) {
		if s := strings.Replace(text, old, new, 1); s != text {
			all = append(all, s)
		}
	}
	rows := strings.SplitAfter(text, "\n")
	for i := range rows {
		if !strings.HasPrefix(rows[i], "f1 ") { // without its last file it is another graph's
			all = append(all, strings.Join(slices.Delete(slices.Clone(rows), i, i+1), ""))
		}
		for _, more := range []string{rows[i], "\n", "# c\n", "x = 1\n", "[x]\n"} {
			all = append(all, strings.Join(slices.Insert(slices.Clone(rows), i, more), ""))
		}
		for j := range i {
			swapped := slices.Clone(rows)
			swapped[i], swapped[j] = swapped[j], swapped[i]
			all = append(all, strings.Join(swapped, ""))
		}
	}
	all = slices.DeleteFunc(all, func(s string) bool { return s == text })
	for _, end := range []string{"\n", " \n", "\t\n", "\r\n"} {
		change("\n", end+"\n")
		change("]\n", "]"+end+"\n")
		change("g\n", "g"+end[:len(end)-1]+"X\n")
	}
	for _, old := range []string{" = ", "name", "graph", "files.0", "run", "yes", "counted", "f0", "ab\n", "ffffffff", "deadbeef", "words", "abcdef"} {
		change(old, strings.ToUpper(old))
		change(old, old+" ")
		change(old, " "+old)
		change(old, old+"X")
		change(old, "")
	}
	for _, pair := range [][2]string{
		{"files.0", "files.1"}, {"files.0", "files.00"}, {"files.0", "files"}, {"f0", "f1"}, {"f0", "f00"}, {"f1", "f2"}, {"f1", "f01"},
		{"= 5\n", "= 05\n"}, {"= 5\n", "= +5\n"}, {"= 5\n", "= 0\n"}, {"= 5\n", "= 1\n"}, {"= 5\n", "= 2147483648\n"}, {"= 5\n", "= 4294967301\n"}, {"= 5\n", "= \"5\"\n"}, {"= 5\n", "= 5 # c\n"}, {"= 5\n", "=5\n"}, {"= 5\n", "= 5.0\n"}, {"= 5\n", "=\n"}, {"= 5\n", "= -5\n"},
		{"counted", "2"}, {"counted", "heavy"}, {"yes", "true"}, {"yes", "y"}, {"= 7\n", "= -7\n"}, {"= 7\n", "= 1099511627777\n"}, {"= 2\n", "= 0\n"}, {"= 2\n", "= 513\n"}, {"= 2\n", "= 6\n"},
		{"000000ab", "ab"}, {"000000ab", "0000000ab"}, {"000000ab", "000000AB"}, {"000000ab", "000000ag"}, {"000000ab", "0x0000ab"}, {"000000ab", "1000000ab"},
		{" 7 0", "  7 0"}, {" 7 0", " 07 0"}, {" 7 0", " -7 0"}, {" 7 0", " 7  0"}, {" 7 0", " 0"}, {" 7 0", " 7 7 0"}, {" 7 0", " 1152921504606846977 0"}, {"deadbeef", "DEADBEEF"}, {"deadbeef", "deadbee"}, {"deadbeef", "0deadbeef"}, {"g-e-0000", "G-e-0000"}, {"g-e-0000", strings.Repeat("e", 33)}, {"g-e-0000", "\"g-e-0000"},
		{"= 12\n", "= 13\n"}, {"= 12\n", "= 012\n"}, {"round = 12", "round = 11"}, {"rounds = 12", "rounds = 11"}, {"words = 3", "words = 0"}, {"words = 3", "words = 9"}, {"18446744073709551615", "18446744073709551616"}, {"18446744073709551615", "018446744073709551615"}, {"18446744073709551615", "-1"}, {"updates = 4", "updates = +4"}, {"updates = 4", "updates = 04"}, {"changed = 0", "changed = -0"}, {"changed = 0", "changed ="},
		{"0000000000000001", "1"}, {"0000000000000001 ", ""}, {"0000000000000001", "00000000000000001"}, {"0000000000000001", "0000000000000001  "}, {"0000000000000001 ", "0000000000000001\t"}, {"8000000000000000\n", "8000000000000000 0000000000000000\n"}, {"ffffffffffffffff", "FFFFFFFFFFFFFFFF"}, {"ffffffffffffffff", "10000000000000000"},
		{"[graph]\n", "[run]\n"}, {"[run]\n", "[graph]\n"}, {"\n\n", "\n"}, {"\n\n", "\n\n\n"}, {"[files.0]\n", "[files.0]\n\n"},
	} {
		change(pair[0], pair[1])
	}
	return append(all, text+"\n", text+"[x]\n", text+"[files.1]\n", text+"\n[files.1]\n", text+"\n[files.1]\nf0 = a 1 00000001\n", text+"f3 = a 1 00000001\n", text+"# c\n", " "+text, "\n"+text, "", "\n", "[graph]\n", "[run]\n", "[graph", "\xff\n", "; seal 00000000\n", strings.ReplaceAll(text, "\n", "\r\n"), strings.TrimSuffix(text, "\n")+" ")
}

// P7.11, P7.12: a sealed text that is not just the one that is written.
func TestTextsThatAreNoManifests(t *testing.T) {
	for _, text := range notWritten(graphText) {
		if m, err := roster.ToGraph(sealOn(t, text)); !sameGraph(m, api.GraphMark{}) || err != api.ErrField {
			t.Errorf("ToGraph(%q): %v, %d", text, m, err)
		}
	}
	for _, text := range notWritten(runText) {
		if m, err := roster.ToRun(sealOn(t, text)); !sameRun(m, api.RunMark{}) || err != api.ErrField {
			t.Errorf("ToRun(%q): %v, %d", text, m, err)
		}
	}
	if _, err := roster.ToRun(sealOn(t, graphText)); err != api.ErrField {
		t.Errorf("a graph's as a run's: %d", err)
	}
	if _, err := roster.ToGraph(sealOn(t, runText)); err != api.ErrField {
		t.Errorf("a run's as a graph's: %d", err)
	}
	head, _, _ := strings.Cut(graphText, "\n[files")
	for _, sizes := range [][]int{{63, 1}, {65}, {64, 0}, {0, 1}, {0}, {1, 1}} {
		text := head
		for k, n := range sizes {
			text += fmt.Sprintf("\n[files.%d]\n", k)
			for i := range n {
				text += fmt.Sprintf("f%d = a 1 00000001\n", i)
			}
		}
		if _, err := roster.ToGraph(sealOn(t, text)); err != api.ErrField {
			t.Errorf("files in sections of %v: %d", sizes, err)
		}
	}
	text := head
	for k := range 17 { // 1088 files: more than MaxMarks
		text += fmt.Sprintf("\n[files.%d]\n", k)
		for i := range 64 {
			text += fmt.Sprintf("f%d = a 1 00000001\n", i)
		}
	}
	if _, err := roster.ToGraph(sealOn(t, text)); err != api.ErrField {
		t.Errorf("1088 files: %d", err)
	}
}

// P7.11, P7.12: what Unseal refuses, ahead of all else.
func TestSealsOfManifests(t *testing.T) {
	long := strings.Repeat("\n", api.MaxRoster+1)
	for text, want := range map[string]api.Errno{"": api.ErrSeal, long: api.ErrLong, graphText: api.ErrSeal, runText: api.ErrSeal, sealOn(t, graphText) + "\n": api.ErrSeal, "x; seal 00000000\n": api.ErrSeal} {
		if m, err := roster.ToGraph(text); !sameGraph(m, api.GraphMark{}) || err != want {
			t.Errorf("ToGraph(%.50q): %v, %d", text, m, err)
		}
		if m, err := roster.ToRun(text); !sameRun(m, api.RunMark{}) || err != want {
			t.Errorf("ToRun(%.50q): %v, %d", text, m, err)
		}
	}
}

// P7.13: bits that are turned within 32 beside one another, wherever it is, are told.
func TestTurnedBitsOfManifests(t *testing.T) {
	r := dice(13)
	refusesAll := func(text string, refuses func(string) bool) {
		turned := func(at int, pattern uint32) {
			b := []byte(text)
			for i := range 32 {
				if pattern>>i&1 == 1 && at+i < 8*len(b) {
					b[(at+i)/8] ^= 1 << ((at + i) % 8)
				}
			}
			if string(b) != text && !refuses(string(b)) {
				t.Fatalf("bits %x from %d on: not told", pattern, at)
			}
		}
		for at := range 8 * len(text) {
			turned(at, 1)
			turned(at, 1|1<<r.Intn(32))
			turned(at, math.MaxUint32)
			for range 10 {
				turned(at, r.Uint32()|1)
			}
		}
		for n := range len(text) {
			if !refuses(text[:n]) || n > 0 && !refuses(text[n:]) {
				t.Fatalf("cut at %d: not told", n)
			}
		}
	}
	refusesAll(sealOn(t, graphText), func(s string) bool { _, err := roster.ToGraph(s); return err != api.OK })
	refusesAll(sealOn(t, runText), func(s string) bool { _, err := roster.ToRun(s); return err != api.OK })
}

func anyName(r *rand.Rand, letters string, most int) string {
	b := make([]byte, 1+r.Intn(most))
	for i := range b {
		b[i] = letters[r.Intn(len(letters))]
	}
	return string(b)
}

func anyFiles(r *rand.Rand) []api.FileMark {
	var files []api.FileMark
	for range r.Intn(200) * r.Intn(2) {
		files = append(files, api.FileMark{Name: anyName(r, "az09_-.", 32), Records: r.Int63n(1<<60+1) >> r.Intn(60), Sum: r.Uint32()})
	}
	return files
}

// P7.13: marks of all sorts, written and read again.
func TestMarksReadAgain(t *testing.T) {
	r := dice(11)
	const letters = "abcxyz019_"
	for range 1500 {
		n := 1 + uint32(r.Int63n(math.MaxInt32))>>r.Intn(31)
		m := api.GraphMark{Graph: api.Graph{Name: anyName(r, letters, 16), N: n, Kind: api.EdgeKind(1 + r.Intn(3)), Parts: 1 + r.Intn(int(min(n, 512))), Both: r.Intn(2) == 0, Edges: r.Int63n(1<<40+1) >> r.Intn(40), Sum: r.Uint32()}, Files: anyFiles(r)}
		text, err := roster.FromGraph(m)
		if err != api.OK {
			t.Fatalf("FromGraph(%v): %d", m, err)
		}
		if got, err := roster.ToGraph(text); !sameGraph(got, m) || err != api.OK {
			t.Fatalf("ToGraph(%q): %v, %d; not %v", text, got, err, m)
		}
		round := r.Intn(1<<20 + 1)
		u := api.RunMark{Run: anyName(r, letters, 16), Graph: anyName(r, letters, 16), GraphSum: r.Uint32(), Code: r.Uint32() >> r.Intn(32), Words: 1 + r.Intn(8), Gen: round, Round: round, Done: r.Intn(2) == 0, Files: anyFiles(r)}
		for i := range 8 {
			u.Ctl[i%4], u.Agg[i] = r.Uint64()>>r.Intn(64), r.Uint64()>>r.Intn(64)
		}
		u.Stats = api.Stats{Rounds: round, Edges: r.Uint64() >> r.Intn(64), Updates: r.Uint64(), Changed: r.Uint64() >> r.Intn(64)}
		text, err = roster.FromRun(u)
		if err != api.OK {
			t.Fatalf("FromRun(%v): %d", u, err)
		}
		if got, err := roster.ToRun(text); !sameRun(got, u) || err != api.OK {
			t.Fatalf("ToRun(%q): %v, %d; not %v", text, got, err, u)
		}
	}
}

// P0.1: files that are handed in are not changed, nor what lies behind them.
func TestMarksApart(t *testing.T) {
	mark := api.FileMark{Name: "spare", Records: 9, Sum: 9}
	m, r := someGraph(), someRun()
	m.Files, r.Files = roomy(filesOf(70), mark), roomy(filesOf(70), mark)
	before := slices.Clone(m.Files[:cap(m.Files)])
	text, _ := roster.FromGraph(m)
	runs, _ := roster.FromRun(r)
	if !slices.Equal(m.Files[:cap(m.Files)], before) || !slices.Equal(r.Files[:cap(r.Files)], before) {
		t.Error("files that were handed in have changed")
	}
	one, _ := roster.ToGraph(text)
	clear(one.Files[:cap(one.Files)])
	if two, err := roster.ToGraph(text); !sameGraph(two, m) || err != api.OK {
		t.Error("two answers of ToGraph share memory")
	}
	three, _ := roster.ToRun(runs)
	clear(three.Files[:cap(three.Files)])
	if four, err := roster.ToRun(runs); !sameRun(four, r) || err != api.OK {
		t.Error("two answers of ToRun share memory")
	}
}
