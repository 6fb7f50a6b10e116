package mill_test

import (
	"fmt"
	"strings"
	"testing"

	"sluice/api"
	"sluice/mill"
)

// bare tells an answer without its statistics.
func bare(answer string) string {
	l := strings.Split(answer, "\n")
	for i, line := range l {
		at, to := strings.Index(line, " rounds "), strings.Index(line, " tells ")
		if at >= 0 && to > at {
			l[i] = line[:at] + " .." + line[to:]
		}
	}
	return strings.Join(l, "\n")
}

// answers asks for what a script answers, but for statistics.
func answers(t *testing.T, what string, m *mill.Mill, script string, want ...string) {
	t.Helper()
	if got := bare(m.Script(script)); got != lines(want...) {
		t.Errorf("%s: got\n%swant\n%s", what, got, lines(want...))
	}
	still(t, m, what)
}

// Parts of scripts.

func loading(edges string, config ...string) string {
	return "load\n" + lines(append([]string{"[graph]", "name = g", "format = snap"}, config...)...) + ".\n" + edges + ".\n"
}

func asking(verb string, a ask, more ...string) string { return verb + "\n" + a.job(more...) + ".\n" }

const fourEdges = "0 1\n0 2\n2 1\n1 3\n"

// DOC.md's ten examples of the whole.
func TestExamples(t *testing.T) {
	make := func(disks, words int) *mill.Mill {
		return openAs(t, api.Setup{Disks: disks, Quota: 1 << 24, Budget: words})
	}
	one := func() *mill.Mill { return make(1, 100000) }
	bfs := askOf("bfs")
	graph := loading(fourEdges, "vertices = 5")
	rows := []string{"0 0 0", "1 1 0", "2 1 0", "3 2 1", "4 -", "ok"}
	answers(t, "1", one(), graph+asking("run", bfs)+asking("rows", bfs)+asking("audit", bfs),
		append(append([]string{"ok vertices 5 edges 4 parts 1", "ok bfs .. tells 4 2"}, rows...), "ok right")...)
	wcc := askOf("wcc")
	answers(t, "2", one(), loading("3 1\n2 2\n", "both = yes", "vertices = 4")+asking("run", wcc)+asking("rows", wcc),
		"ok vertices 4 edges 2 parts 1", "ok wcc .. tells 3 0", "0 0", "1 1", "2 2", "3 1", "ok")
	answers(t, "2, without both", one(), loading("3 1\n2 2\n", "vertices = 4")+asking("run", wcc), "ok vertices 4 edges 2 parts 1", "error 120 1")
	sssp := askOf("sssp")
	const ways = "0 1 5\n0 2 2\n2 1 -1\n"
	answers(t, "3", one(), loading(ways, "type = 2", "vertices = 3")+asking("run", sssp)+asking("rows", sssp),
		"ok vertices 3 edges 3 parts 1", "ok sssp .. tells 3 0", "0 0", "1 1", "2 2", "ok")
	answers(t, "3, a cycle", one(), loading(ways+"1 0 -4\n", "type = 2", "vertices = 3")+asking("run", sssp)+asking("rows", sssp),
		"ok vertices 3 edges 4 parts 1", "ok sssp .. tells 0 1", "0 negative", "1 negative", "2 negative", "ok")
	mis := askOf("mis")
	answers(t, "4", one(), loading("0 1\n1 2\n2 3\n", "both = yes", "vertices = 4")+asking("run", mis)+asking("rows", mis),
		"ok vertices 4 edges 3 parts 1", "ok mis .. tells 0 0", "0 in", "1 out", "2 in", "3 out", "ok")
	rank := askOf("pagerank", "damp", "0.5", "rounds", "2")
	answers(t, "5", one(), loading("0 1\n", "vertices = 2")+asking("run", rank)+asking("rows", rank),
		"ok vertices 2 edges 1 parts 1", "ok pagerank .. tells 0 0", "0 4.06250000e-01", "1 5.93750000e-01", "ok")
	topo := askOf("topo")
	answers(t, "6", one(), loading("3 1\n1 0\n3 0\n", "both = yes", "vertices = 4")+asking("run", topo)+asking("rows", topo),
		"ok vertices 4 edges 3 parts 1", "ok topo .. tells 0 0", "0 2", "1 1", "2 0", "3 0", "ok")
	code := askOf("code", "program", "p")
	answers(t, "7", one(), lines("teach p", "program p;", "state x int;", "on start { x = vertex * vertex; }", "on turn { done; }", ".")+graph+asking("run", code)+asking("rows", code),
		"ok", "ok vertices 5 edges 4 parts 1", "ok code .. tells 0 0", "0 0000000000000000", "1 0000000000000001", "2 0000000000000004", "3 0000000000000009", "4 0000000000000010", "ok")
	answers(t, "8", one(), graph+"restart 0\n"+asking("run", bfs), "ok vertices 5 edges 4 parts 1", "ok", "ok bfs .. tells 4 2")
	answers(t, "8, ahead of a load", one(), "restart\n"+asking("run", bfs), "ok", "error 125 1")
	answers(t, "9", make(3, 100000), graph+asking("run", bfs)+"swap 1\n"+asking("rows", bfs),
		append([]string{"ok vertices 5 edges 4 parts 1", "ok bfs .. tells 4 2", "ok"}, rows...)...)
	answers(t, "10", one(), graph+asking("run", askOf("dfs"))+asking("run", askOf("bfs", "source", "9"))+graph+"uproot g\n"+loading("0 7\n", "vertices = 5")+"walk\npurse\n",
		"ok vertices 5 edges 4 parts 1", "error 191 1", "error 130 1", "error 123 1", "ok", "error 84 2", "error 190 1")
	answers(t, "10, a purse", make(1, 100), graph, "error 41 3")
}

// P19.10: each command, with its answer and with an error's.
func TestCommands(t *testing.T) {
	bfs := askOf("bfs")
	for i, c := range []struct {
		script string
		want   []string
	}{
		{"", nil},
		{"\n\n\n", nil},
		{loading(fourEdges, "vertices = 5", "parts = 2"), []string{"ok vertices 5 edges 4 parts 2"}},
		{"load\n.\n.\n", []string{"error 79 1"}},
		{"load\n[graph]\nname = g\nvertices = 1\n.\n.", []string{"ok vertices 1 edges 0 parts 1"}},
		{"loadhex\n[graph]\nname = g\nvertices = 2\n.\n00 00 0000\n0100\n  0000 \n\n0a 000000FFfFFfff\n.\n", []string{"error 84 2"}},
		{"loadhex\n[graph]\nname = g\nvertices = 11\n.\n00000000 0A000000\n0 a 0 0 0 0 0 0 0 0 0 0 0 0 0 0\n.\n" + asking("run", bfs), []string{"ok vertices 11 edges 2 parts 1", "ok bfs .. tells 2 1"}},
		{"loadhex\n[graph]\nname = g\nvertices = 2\n.\n.\n", []string{"ok vertices 2 edges 0 parts 1"}},
		{"loadhex\n[graph]\nname = g\nvertices = 2\nformat = snap\n.\n30 20 31\n.\n", []string{"ok vertices 2 edges 1 parts 1"}},
		{"teach p\nprogram p;\n.\nteach p\n.\nteach P\nprogram p;\n.\n", []string{"ok", "error 171 1", "error 2 1"}},
		{asking("run", bfs) + asking("resume", bfs) + asking("rows", bfs) + asking("audit", bfs), []string{"error 125 1", "error 125 1", "error 125 1", "error 125 1"}},
		{loading(fourEdges, "vertices = 5") + asking("resume", bfs) + asking("run", bfs, "every = 1", "cap = 1") + asking("rows", bfs) + asking("audit", bfs) + asking("resume", bfs),
			[]string{"ok vertices 5 edges 4 parts 1", "error 122 1", "error 121 8", "error 122 1", "error 122 1", "ok bfs .. tells 4 2"}},
		{"wipe r\nwipe R\nuproot g\nuproot G\nwipe a.b\n", []string{"error 122 1", "error 2 1", "error 125 1", "error 2 1", "error 2 1"}},
		{loading("", "vertices = 5") + asking("run", bfs) + "wipe r\nuproot g\n" + asking("rows", bfs), []string{"ok vertices 5 edges 0 parts 1", "ok bfs .. tells 1 0", "ok", "ok", "error 125 1"}},
		{"restart\nrestart 0\nrestart -5\nrestart 1,2,-3 4 5,6 7\nrestart 007,008\nrestart 9223372036854775807,-9223372036854775808\n", []string{"ok", "ok", "ok", "ok", "ok", "ok"}},
		{"swap 0\nswap -1\nswap 9223372036854775807\n", []string{"error 2 1", "error 2 1", "error 2 1"}},
		{"purse\n\n\npurse", []string{"ok 0 0", "ok 0 0"}},
	} {
		answers(t, fmt.Sprintf("P19.10: case %d", i), open(t, 1), c.script, c.want...)
	}
	m := open(t, 4)
	answers(t, "P19.10: swap", m, loading(fourEdges, "vertices = 5")+"swap 3\nswap 0\nswap 00\nswap -0\nswap 4\n", "ok vertices 5 edges 4 parts 1", "ok", "ok", "ok", "ok", "error 2 1")
	_, _, high := m.Purse()
	answers(t, "P19.10: purse", m, "purse\n", fmt.Sprintf("ok 0 %d", high))
	if high == 0 {
		t.Error("P19.10: nothing was ever out?")
	}
}

// P19.10: the statistics stand in the answer of run, as in the Outcome.
func TestScriptTellsOutcomes(t *testing.T) {
	m := open(t, 1)
	got := m.Script(loading(fourEdges, "vertices = 5") + asking("run", askOf("bfs")))
	o, e := m.Resume(askOf("bfs").job())
	if e != api.OK || got != lines("ok vertices 5 edges 4 parts 1", "ok "+o.Text) || o.Text != "bfs rounds 3 edges 12 updates 4 changed 3 tells 4 2" {
		t.Errorf("P19.10: %d, %q, %q", e, got, o.Text)
	}
}

// P19.10: lines that are no command: the script ends there, whatever stands behind; what was done ahead stays.
func TestNoCommands(t *testing.T) {
	block := ".\n"
	for _, line := range []string{
		"walk", "Purse", "purse x", " purse", "purse ", "purse\t", "purse\r", ".", " ", "load x", "load", "load\n" + block, "load\n.\n..\n", "load \n" + block + block, "load\n" + block + " .\n", "load\n" + block + ".\r\n", "load\n" + block + ". \n",
		"loadhex", "loadhex\n" + block, "loadhex x\n" + block + block, "loadhex\n.\nabc\n.\n", "loadhex\n.\na\n.\n", "loadhex\n.\nag\n.\n", "loadhex\n.\n0x00\n.\n", "loadhex\n.\n00\t00\n.\n", "loadhex\n.\n00\r\n.\n", "loadhex\n[\n.\n0\n.\n", "loadhex\n.\n00,00\n.\n",
		"teach\n" + block, "teach p", "teach p\nprogram p;\n", "teach p q\n" + block, "teach  p\n" + block, "teach \n" + block,
		"run", "run x\n" + block, "run\n[job]\n", "run\n[job]\n..\n", "resume", "resume x\n" + block, "rows", "rows x\n" + block, "audit", "audit x\n" + block,
		"wipe", "wipe ", "wipe a b", "wipe a ", "uproot", "uproot ", "uproot a b",
		"restart ", "restart x", "restart 1,x", "restart 1,", "restart ,1", "restart 1  2", "restart 1, 2", "restart +1", "restart 1.5", "restart 9223372036854775808", "restart 1,-9223372036854775809", "restart 1,+2", "restart -", "restart 1_0", "restart 0x1", "restart 1 x", "restart 1,2 3,y",
		"swap", "swap x", "swap 1 2", "swap ", "swap 1,2", "swap +1", "swap 9223372036854775808", "swap -", "swap 1 ", "swap  1",
	} {
		m := open(t, 1)
		answers(t, fmt.Sprintf("P19.10: %q", line), m, "purse\n\n"+line, "ok 0 0", "error 190 1")
		if strings.HasSuffix(line, "\n") || !strings.Contains(line, "\n") && !strings.HasPrefix(line, "load") && !strings.HasPrefix(line, "teach p") && line != "run" && line != "resume" && line != "rows" && line != "audit" {
			answers(t, fmt.Sprintf("P19.10: %q and more", line), m, line+"\npurse\n", "error 190 1")
		}
	}
	m := open(t, 1)
	answers(t, "P19.10: what was done stays", m, loading(fourEdges, "vertices = 5")+"walk\nuproot g\n", "ok vertices 5 edges 4 parts 1", "error 190 1")
	if _, e := m.Run(askOf("bfs").job()); e != api.OK {
		t.Errorf("P19.10: %d", e)
	}
	answers(t, "P19.10: hex digits ahead of the load", m, "loadhex\n[graph]\nname = g\n.\n0\n.\n", "error 190 1")
}

// P19.10: the last line may lack its end; in a block's end too.
func TestLastLines(t *testing.T) {
	m := open(t, 1)
	answers(t, "P19.10", m, strings.TrimSuffix(loading(fourEdges, "vertices = 5"), "\n"), "ok vertices 5 edges 4 parts 1")
	answers(t, "P19.10", m, strings.TrimSuffix(asking("run", askOf("bfs")), "\n"), "ok bfs .. tells 4 2")
	answers(t, "P19.10", m, "wipe r", "ok")
	answers(t, "P19.10: a block is lines with their ends", m, "load\n[graph]\nname = h\nvertices = 2\nformat = binary\n.\nabcdefg\n.", "error 84 2") // eight bytes: the line's end is one
	answers(t, "P19.10: an empty line in a block is the block's", m, "loadhex\n[graph]\nname = h\n\nvertices = 2\n.\n\n\n.\n", "ok vertices 2 edges 0 parts 1")
	answers(t, "P19.10: a block ends at its first dot", m, "teach p\nprogram p;\n.\n.\npurse\n", "ok", "error 190 1")
}

// P19.10: just MaxScript bytes are taken; one more is refused, and nothing is done.
func TestLongestScript(t *testing.T) {
	m := open(t, 1)
	script := loading(fourEdges, "vertices = 5")
	long := script + strings.Repeat("\n", api.MaxScript-len(script))
	if got := m.Script(long + "\n"); got != "error 4\n" {
		t.Errorf("P19.10: %q", got)
	}
	if _, e := m.Run(askOf("bfs").job()); e != api.ErrGraph {
		t.Errorf("P19.10: a script that is too long is done: %d", e)
	}
	answers(t, "P19.10: the longest script", m, long, "ok vertices 5 edges 4 parts 1")
}

// P19.10, P19.6: rows that end with an error: what was told stands ahead of it.
func TestRowsThatFail(t *testing.T) {
	m, w := ringed(t, 1)
	must(t, "Flip", m.Disk(0).Flip("r-s-0000010-0001", 8*100))
	got := m.Script(asking("rows", w.ask))
	if !strings.HasPrefix(got, "0 0 0\n1 1 0\n") || strings.Count(got, "\n") > 10 || !strings.HasSuffix(got, " 6\n") || strings.Contains(got, "ok") {
		t.Errorf("P19.10: %q", got)
	}
	still(t, m, "P19.10: rows that fail")
}
