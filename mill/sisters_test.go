package mill_test

import (
	"fmt"
	"math"
	"math/rand/v2"
	"slices"
	"strconv"
	"strings"
	"testing"

	"sluice/api"
)

// sister is a kernel written in the language of layer 17, beside the built-in one.
type sister struct {
	text  string
	args  func(w world) []string
	row   func(words []uint64) string
	tells bool // it tells the same of the whole
	plain bool // the language has no weight of plain edges
}

func noArgs(world) []string { return nil }

func sourceArg(w world) []string { return []string{"arg.source", w.value("source", "0")} }

// sisters are some of the kernels, each in its own way.
func sisters() map[string]sister {
	return map[string]sister{
		"bfs": {`program bfs;
const far = 9223372036854775807;
param source int;
state level int;
state parent int;
state from int;
agg reached int;
agg deepest int;
ctl depth int;
lane who int minint into from;
on start {
  from = far;
  level = when(vertex == source, 0, -1);
  parent = vertex;
}
on scatter { if level == depth { send src; } }
on apply {
  let least = from;
  from = far;
  if level < 0 and least < far { level = depth + 1; parent = least; change; }
}
on fold { if level >= 0 { reached = reached + 1; deepest = max(deepest, level); } }
on turn { if changed == 0 { done; } depth = round; }
`, sourceArg, func(words []uint64) string {
			if int64(words[0]) < 0 {
				return "-"
			}
			return number(int(words[0])) + " " + number(int(words[1]))
		}, true, false},
		"wcc": {`program wcc;
state label int;
state told int;
agg heads int;
both;
lane least int minint into label;
on start { label = vertex; told = vertex; }
on scatter { send label; }
on apply { if label < told { told = label; change; } }
on fold { if label == vertex { heads = heads + 1; } }
on turn { if changed == 0 { done; } }
`, noArgs, decimalRow, true, false},
		"sssp": {`program sssp;
const far = 9223372036854775807;
param source int;
state best int;
state told int;
agg reached int;
lane way int minint into best;
on start { best = when(vertex == source, 0, far); told = best; }
on scatter { if best < far { send best + weight; } }
on apply { if best < told { told = best; change; } }
on fold { if best < far { reached = reached + 1; } }
on turn { if changed == 0 { done; } }
`, sourceArg, func(words []uint64) string {
			if words[0] == math.MaxInt64 {
				return "-"
			}
			return strconv.FormatInt(int64(words[0]), 10)
		}, true, true},
		"mis": {`program mis;
const far = 9223372036854775807;
state in int;
state stage int;
state least int;
state near int;
agg open int;
both;
lane first int minint into least;
lane news int or into near;
on start { least = far; }
on scatter {
  if src == dst { skip; }
  if stage == 0 { send when(back, dst, src), 0; }
  if stage == 1 { send far, 1; }
}
on apply {
  let rival = least;
  let taken = near != 0;
  least = far;
  near = 0;
  if stage == 0 {
    if taken { stage = 2; change; }
    if vertex < rival { in = 1; stage = 1; change; }
    keep;
  }
  stage = 2;
}
on fold { if stage == 0 { open = open + 1; } }
on turn { if open == 0 { done; } }
`, noArgs, func(words []uint64) string { return []string{"out", "in"}[words[0]] }, false, false},
		"kcore": {`program kcore;
state core int;
state stage int;
state left int;
state lost int;
state loops int;
agg there int;
agg least int;
agg fresh int;
ctl begun bool;
ctl level int;
both;
lane one int add into lost;
lane two int add into loops;
on start { left = outdeg + indeg; }
on scatter {
  if src == dst {
    if not begun { send 0, 1; }
    skip;
  }
  if stage == 1 { send 1, 0; }
}
on apply {
  left = left - lost - loops;
  lost = 0;
  loops = 0;
  if stage == 0 {
    if not begun { change; }
    if left <= level { core = level; stage = 1; change; }
    keep;
  }
  stage = 2;
}
on fold {
  if stage == 0 {
    if there == 0 or left < least { least = left; }
    there = there + 1;
  }
  if stage == 1 { fresh = fresh + 1; }
}
on turn {
  if there == 0 { done; }
  if fresh == 0 and (least > level or not begun) { level = least; }
  begun = true;
}
`, noArgs, decimalRow, false, false},
		"topo": {`program topo;
state level int;
state waiting int;
state far int;
state come int;
state fresh bool;
agg without int;
lane longest int maxint into far;
lane one int add into come;
on start {
  waiting = indeg;
  fresh = indeg == 0;
  level = when(fresh, 0, -1);
}
on scatter { if fresh { send level + 1, 1; } }
on apply {
  waiting = waiting - come;
  come = 0;
  fresh = level < 0 and waiting == 0;
  if fresh { level = far; change; }
}
on fold { if level < 0 { without = without + 1; } }
on turn { if changed == 0 { done; } }
`, noArgs, func(words []uint64) string {
			if int64(words[0]) < 0 {
				return "-"
			}
			return number(int(words[0]))
		}, true, false},
		"pagerank": {`program pagerank;
param damp real;
param vertices int;
param rounds int;
state come tally;
state rank real;
state out int;
agg idle tally;
lane share real tally into come;
on start { rank = 1.0 / real(vertices); out = outdeg; }
on scatter { send rank / real(out); }
on apply {
  let base = (1.0 - damp) / real(vertices);
  let old = rank;
  rank = base + damp * (total(come) + total(idle) / real(vertices));
  clear come;
  if rank != old { change; }
}
on fold { if out == 0 { idle += rank; } }
on turn { if changed == 0 or round >= rounds { done; } }
`, func(w world) []string {
			return []string{"arg.damp", w.value("damp", "0.85"), "arg.vertices", number(int(w.n)), "arg.rounds", w.value("rounds", "20")}
		}, func(words []uint64) string { return real(math.Float32frombits(uint32(words[6]))) }, false, false},
	}
}

func decimalRow(words []uint64) string { return number(int(words[0])) }

// wordsOf reads a row of code.
func wordsOf(t testing.TB, row string) (words []uint64) {
	t.Helper()
	for _, text := range strings.Split(row, " ") {
		word, err := strconv.ParseUint(text, 16, 64)
		if err != nil || len(text) != 16 || strings.ToLower(text) != text {
			t.Fatalf("P19.6: a row of code: %q", row)
		}
		words = append(words, word)
	}
	return words
}

// P19.28, P19.20: a kernel written in the language tells what its built-in sister does, on any disks and in any shape.
func TestSisters(t *testing.T) {
	all := sisters()
	for seed := range uint64(30) {
		for kernel, s := range all {
			rnd := rand.New(rand.NewPCG(seed, uint64(kernel[0])<<8+uint64(kernel[1])))
			w := anyWorld(rnd, kernel, 12)
			if kernel == "mis" {
				w.fields = nil // the seed that gives each vertex its own number as priority
			}
			if s.plain {
				w.kind = api.ECounted
				for i := range w.edges {
					w.edges[i].W = rnd.Uint32N(100) // no cycle below zero
				}
			}
			want := w.model(t)
			what := fmt.Sprintf("P19.28: seed %d: %+v", seed, w)
			shape := anyShape(rnd, w)
			m := open(t, shape.disks)
			_, e := m.Load(w.config(shape.format, shape.graph...), w.input(t, shape.format))
			must(t, what, e)
			must(t, what, m.Teach("sister", s.text))
			code := ask{"code", append([]string{"program", "sister"}, s.args(w)...)}
			job := code.jobOf("s", "g", shape.job...)
			o, e := m.Run(job)
			must(t, what, e)
			rows, e := rowsOf(t, m, job)
			must(t, what, e)
			for v, row := range rows {
				rows[v] = s.row(wordsOf(t, row))
			}
			_, e = m.Run(w.job(shape.job...))
			must(t, what, e)
			built, e := rowsOf(t, m, w.job(shape.job...))
			if e != api.OK || !slices.Equal(rows, built) || !slices.Equal(rows, want.rows) || s.tells && o.Tells != want.tells {
				t.Fatalf("%s: %q, %v; built in %q; want %+v", what, rows, o.Tells, built, want)
			}
		}
	}
}

// P19.28: a graph tells the same through each of the formats.
func TestFormats(t *testing.T) {
	for seed := range uint64(56) {
		rnd := rand.New(rand.NewPCG(seed, 1928))
		w := anyWorld(rnd, kernelAt(seed), 10)
		want := w.model(t)
		var sums []uint32
		for f := api.FmtBinary; f <= api.FmtMatrix; f++ {
			m := open(t, 1)
			config := w.config(f)
			if f >= api.FmtDimacs && rnd.IntN(2) == 0 { // the input says it
				config = strings.Replace(config, "vertices = "+number(int(w.n))+"\n", "", 1)
			}
			g, e := m.Load(config, w.input(t, f))
			must(t, "P19.28", e)
			sums = append(sums, g.Sum)
			_, e = m.Run(w.job())
			must(t, "P19.28", e)
			if rows, e := rowsOf(t, m, w.job()); e != api.OK || !slices.Equal(rows, want.rows) || g.Sum != sums[0] {
				t.Fatalf("P19.28: seed %d, format %d: %+v: %d, %q, want %q", seed, f, w, e, rows, want.rows)
			}
		}
	}
}
