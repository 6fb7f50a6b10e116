package loom_test

import (
	"fmt"
	"math/big"
	"math/rand/v2"
	"regexp"
	"slices"
	"strings"
	"testing"

	"sluice/api"
	"sluice/loom"
)

const mixedText = `state int real bool bool int
agg none int real bool none int none real
ctl real none bool int
message bool int
sink 3 or 0 maxint
both
start
  halt
scatter
  bool 1
  int 7
  bool 1
  halt
apply
  bool 0
  halt
fold
  jump 6
  int -9223372036854775808
  real 4286578688
  pick 31
  jump 4
  shl 63
  halt
turn
  bool 1
  halt
`

const summedText = `state int tally tally tally tally tally tally real
agg bool int tally tally tally tally tally tally
ctl real
message real real
sink 1 tally 7 max
start
  halt
scatter
  real 1069547520
  real 1069547520
  bool 1
  halt
apply
  bool 0
  halt
fold
  halt
turn
  bool 1
  halt
`

// P11.7: just these lines, words and blanks.
func TestPrint(t *testing.T) {
	c := with(mixed(), 3, op(api.OpJump, 6), op(api.OpInt, -1<<63), op(api.OpReal, 0xff800000), op(api.OpPick, 31), op(api.OpJump, 4), op(api.OpShl, 63), halt)
	for _, k := range []struct {
		c    api.Code
		text string
	}{
		{c, mixedText},
		{summed(), summedText},
		{small(), "state int\nagg\nctl\nmessage int\nsink 0 none 0 none\nstart\n  halt\nscatter\n  int 7\n  bool 1\n  halt\napply\n  bool 0\n  halt\nfold\n  halt\nturn\n  bool 1\n  halt\n"},
	} {
		if text, e := loom.Print(k.c); text != k.text || e != api.OK {
			t.Errorf("%d, %s\nnot\n%s", e, text, k.text)
		}
		if got, e, line := loom.Parse(k.text); e != api.OK || line != 0 || !same(got, k.c) {
			t.Errorf("%v, %d, %d", got, e, line)
		}
	}
	wrong := mixed()
	wrong.MsgA = 0
	for _, c := range []api.Code{{}, wrong, with(mixed(), 4, halt)} {
		if text, e := loom.Print(c); text != "" || e != api.ErrCode {
			t.Errorf("%q, %d", text, e)
		}
	}
}

// P11.7, P11.8: every name of an instruction, of a kind and of a monoid, with and without an Arg; the lists end without their nones.
func TestNames(t *testing.T) {
	for _, r := range rows() {
		for _, c := range kinds() {
			for hand := range api.Hands {
				for n := int64(9); n >= 0; n-- {
					if !r.hands[hand] || !(model{rows(), c}).argument(hand, op(r.op, n)) {
						continue
					}
					changed := with(c, hand, append(slices.Clone(c.Hands[hand]), op(r.op, n))...)
					want := "\n  " + r.name + "\n"
					if r.arg != "" {
						want = fmt.Sprintf("\n  %s %d\n", r.name, n)
					}
					text, e := loom.Print(changed)
					if e != api.OK || !strings.Contains(text, want) {
						t.Errorf("%d, %s", e, text)
					}
					if got, e, line := loom.Parse(text); e != api.OK || line != 0 || !same(got, changed) {
						t.Errorf("%d, %d of %s", e, line, text)
					}
				}
			}
		}
	}
	for monoid, name := range []string{"none", "min", "max", "minint", "maxint", "add", "and", "or", "nibbles", "tally"} {
		c := summed()
		c.Sink = api.Sink{MonA: api.Monoid(monoid)}
		want := "sink 0 " + name + " 0 none\n"
		if name == "tally" {
			c.Sink.A, want = 1, "sink 1 tally 0 none\n"
		}
		text, e := loom.Print(c)
		if e != api.OK || !strings.Contains(text, want) {
			t.Errorf("%d: %d, %s", monoid, e, text)
		}
		if got, e, _ := loom.Parse(text); e != api.OK || !same(got, c) {
			t.Errorf("%d: %d", monoid, e)
		}
	}
	c := small()
	c.Agg, c.Ctl = [8]api.WordKind{1: bool_}, [4]api.WordKind{3: real}
	if text, _ := loom.Print(c); !strings.Contains(text, "\nagg none bool\nctl none none none real\n") {
		t.Error(text)
	}
}

// P11.7, the chapter's 'Bound and counters': the longest codes are below MaxAsm.
func TestLongest(t *testing.T) {
	c := summed()
	for hand := range c.Hands {
		list := append(slices.Clone(c.Hands[hand]), slices.Repeat([]api.Ins{op(api.OpInt, -1<<63)}, 512-len(c.Hands[hand]))...)
		c.Hands[hand] = list
	}
	text, e := loom.Print(c)
	if e != api.OK || len(text) > api.MaxAsm {
		t.Fatalf("%d, %d bytes", e, len(text))
	}
	if got, e, line := loom.Parse(text); e != api.OK || line != 0 || !same(got, c) {
		t.Errorf("%d, %d", e, line)
	}
	more := strings.Replace(text, "fold\n", "fold\n  halt\n", 1)
	if _, e, line := loom.Parse(more); e != api.ErrAssembly || line != 5+4+3*512+513 {
		t.Errorf("%d, %d", e, line)
	}
	pad := strings.Repeat(" ", api.MaxAsm-len(text))
	if _, e, line := loom.Parse(text + pad); e != api.OK || line != 0 {
		t.Errorf("%d, %d", e, line)
	}
	for _, text := range []string{text + pad + " ", strings.Repeat("\n", api.MaxAsm+1), strings.Repeat("?", api.MaxAsm+1), strings.Repeat("?", 1<<20)} {
		if got, e, line := loom.Parse(text); e != api.ErrLong || line != 0 || !same(got, api.Code{}) {
			t.Errorf("%d, %d", e, line)
		}
	}
}

// P11.8: blanks, comments, empty lines, an end without its byte 10.
func TestLoose(t *testing.T) {
	want, _, _ := loom.Parse(bfs)
	for _, text := range []string{
		bfs,
		strings.TrimSuffix(bfs, "\n"),
		bfs + "\n\n\t \n;\n;halt",
		"\n \t\n;state real\n" + bfs,
		strings.ReplaceAll(bfs, "\n", " ; a word; another\n\n"),
		strings.ReplaceAll(bfs, "\n", ";\xff\x00\n"),
		strings.ReplaceAll(bfs, "\n", "\t \t\n \t \n"),
		strings.ReplaceAll(bfs, "  ", ""),
		strings.ReplaceAll(strings.ReplaceAll(bfs, "  ", ""), " ", "\t  \t"),
		strings.ReplaceAll(bfs, "int 0", "int -0"),
		strings.ReplaceAll(bfs, "int 0", "int 0000000000000000000000000000000000"),
		strings.ReplaceAll(bfs, "jump 7", "jump 007;"),
		strings.ReplaceAll(bfs, "sink 0", "sink -00"),
		strings.ReplaceAll(bfs, "message int", "message int none"),
		strings.ReplaceAll(bfs, "agg", "agg none none none none none none none none"),
		strings.ReplaceAll(bfs, "ctl", "ctl none none none none"),
	} {
		if got, e, line := loom.Parse(text); e != api.OK || line != 0 || !same(got, want) {
			t.Errorf("%q: %d, %d", text, e, line)
		}
	}
}

// P11.8: each kind of fault, and the number of its line. The lines of bfs: 1 state, 2 agg, 3 ctl, 4 message, 5 sink, 6 start to 15 halt, 16 scatter to 23 halt, 24 apply, 27 fold, 29 turn, 31 halt.
func TestParseFaults(t *testing.T) {
	lines := strings.SplitAfter(strings.TrimSuffix(bfs, "\n"), "\n")
	for n, list := range map[int][]string{
		1:  {"state", "state whole", "state int int int int int int int int int", "agg", "int", "state int;\nstate int", "State int", "state Int", "state int,", "state int\r", "state\vint", "state int\xa0", "stateint", "state 1", "both", "start"},
		2:  {"agg whole", "agg int int int int int int int int int", "ctl", "aggs", "agg 0", "state int"},
		3:  {"ctl whole", "ctl int int int int int", "agg", "message int"},
		4:  {"message", "message int int int", "message whole", "message int whole", "sink 0 none 0 none", "messages int"},
		5:  {"sink", "sink 0", "sink 0 minint", "sink 0 minint 0", "sink 0 minint 0 none 0", "sink 0 least 0 none", "sink 0 none 0 least", "sink none 0 none 0", "sink x minint 0 none", "sink 0 minint x none", "sink 9223372036854775808 minint 0 none", "sink 0 minint -9223372036854775809 none", "sink +0 minint 0 none", "sink 0 minint +0 none", "sink 0x0 minint 0 none", "sink 0 minint 0 int", "sink - minint 0 none", "both", "start"},
		6:  {"starts", "start start", "start 0", "scatter", "halt", "Start", "both both", "both 1", "both\nboth", "sink 0 none 0 none"},
		7:  {"vertex 0", "vertices", "Vertex", "start", "apply", "both", "turn", "state", "int", "int 1 2", "int x", "int 1.5", "int 1e3", "int +1", "int --1", "int 1-", "int -", "int 0x10", "int 1_000", "int 9223372036854775808", "int -9223372036854775809", "int 99999999999999999999999999", "real", "real 1.5", "bool true", "halt 0", "dup 0", "jump", "jump here", "; vertex\nagg", "vertex vertex", "0", "-", "67 6", "state int"},
		16: {"scatters", "scatter 1", "apply", "fold", "turn", "start", "both"},
		24: {"applies", "apply apply", "fold", "scatter", "turn", "start"},
		27: {"folds", "fold 3", "turn", "apply", "start"},
		29: {"turns", "turn turn", "fold", "start", "apply", "scatter"},
		31: {"turn", "start", "scatter", "apply", "fold", "halt halt", "halt 0", "stop", "state int"},
	} {
		for _, line := range list {
			changed := slices.Clone(lines)
			changed[n-1] = line + "\n"
			want := n + strings.Count(line, "\n")
			text := strings.Join(changed, "")
			if got, e, at := loom.Parse(text); e != api.ErrAssembly || at != want || !same(got, api.Code{}) {
				t.Errorf("%q in line %d: %d, %d", line, n, e, at)
			}
			// What stands behind the first fault is not looked at, and what comes ahead of it counts.
			if _, e, at := loom.Parse(";\n\n" + text + "?\n"); e != api.ErrAssembly || at != want+2 {
				t.Errorf("%q in line %d, moved: %d, %d", line, n, e, at)
			}
		}
	}
}

// P11.8: lines that are missing: the number is the one behind the last line.
func TestMissingLines(t *testing.T) {
	for text, want := range map[string]int{"": 1, "\n": 2, "\n\n": 3, ";": 2, ";\n": 2, " \t": 2, "state int": 2, "state int\n": 2, "state int\n\n": 3, "state int\n;": 3, "state int\n; x\n": 3, "state int\nagg\nctl\nmessage int\nsink 0 none 0 none": 6, "state int\nagg\nctl\nmessage int\nsink 0 none 0 none\nboth\n": 7, "state int\nagg\nctl\nmessage int\nsink 0 none 0 none\nboth\nstart\n": 8} {
		if got, e, line := loom.Parse(text); e != api.ErrAssembly || line != want || !same(got, api.Code{}) {
			t.Errorf("%q: %d, %d", text, e, line)
		}
	}
	lines := strings.SplitAfter(bfs, "\n")
	for n := range 29 { // the line turn is the 29th
		if _, e, line := loom.Parse(strings.Join(lines[:n], "")); e != api.ErrAssembly || line != n+1 {
			t.Errorf("%d lines: %d, %d", n, e, line)
		}
	}
}

// P11.8: all lines are right, and Check refuses the code.
func TestParseRefused(t *testing.T) {
	for _, change := range [][2]string{
		{"eqi", "addi"}, {"state int\n", "state none\n"}, {"state int\n", "state tally\n"}, {"ctl\n", "ctl tally\n"}, {"message int", "message none"}, {"message int", "message tally"}, {"message int", "message int tally"}, {"sink 0 minint", "sink 1 minint"}, {"sink 0 minint", "sink -1 minint"}, {"sink 0 minint", "sink 9223372036854775807 minint"}, {"sink 0 minint", "sink 0 tally"}, {"0 none\n", "0 min\n"}, {"0 none\n", "1 none\n"}, {"jump 7", "jump 9"}, {"jump 7", "jump -1"}, {"tostate 0", "tostate 1"}, {"int 1000000\n  tostate 0", "real 4290772992\n  tostate 0"}, {"bool 0", "bool 2"}, {"fold\n  halt\n", "fold\n"}, {"turn\n  bool 1\n  halt\n", "turn\n"}, {"  state 0", "outdeg"},
	} {
		text := strings.Replace(bfs, change[0], change[1], 1)
		if got, e, line := loom.Parse(text); text == bfs || e != api.ErrCode || line != 0 || !same(got, api.Code{}) {
			t.Errorf("%v: %d, %d", change, e, line)
		}
	}
}

const (
	aKind   = "(none|int|real|bool|tally)"
	aMonoid = "(none|min|max|minint|maxint|add|and|or|nibbles|tally)"
)

// forms are the lines ahead of the handlers.
var forms = []*regexp.Regexp{
	regexp.MustCompile("^state( " + aKind + "){1,8}$"), regexp.MustCompile("^agg( " + aKind + "){0,8}$"), regexp.MustCompile("^ctl( " + aKind + "){0,4}$"),
	regexp.MustCompile("^message( " + aKind + "){1,2}$"), regexp.MustCompile("^sink -?[0-9]+ " + aMonoid + " -?[0-9]+ " + aMonoid + "$"),
}

var numbers = regexp.MustCompile(" -?[0-9]+")

// faulty is a second reading of P11.8: the first line that is not as it should be, or 0.
func faulty(text string, all []row) int {
	var instructions []string
	for _, r := range all {
		if r.arg != "" {
			instructions = append(instructions, r.name+" -?[0-9]+")
		} else {
			instructions = append(instructions, r.name)
		}
	}
	instruction := regexp.MustCompile("^(" + strings.Join(instructions, "|") + ")$")
	lines := strings.Split(text, "\n")
	if lines[len(lines)-1] == "" {
		lines = lines[:len(lines)-1]
	}
	seen, both, hand, count := 0, false, 0, 0
	for i, line := range lines {
		line = regexp.MustCompile(`(?s);.*`).ReplaceAllString(line, "")
		line = strings.Trim(regexp.MustCompile("[ \t]+").ReplaceAllString(line, " "), " ")
		ok := true
		for _, n := range numbers.FindAllString(line, -1) {
			whole, _ := new(big.Int).SetString(n[1:], 10)
			ok = ok && whole.IsInt64()
		}
		switch {
		case line == "":
		case seen < 5:
			ok = ok && forms[seen].MatchString(line)
			seen++
		case hand == 0 && line == "both":
			ok = !both
			both = true
		case hand < 5 && line == strings.ToLower(handNames[hand]):
			hand, count = hand+1, 0
		default:
			count++
			ok = ok && hand > 0 && instruction.MatchString(line) && count <= 512
		}
		if !ok {
			return i + 1
		}
	}
	if hand < 5 {
		return len(lines) + 1
	}
	return 0
}

// scrawl changes a text somewhere.
func scrawl(roll *rand.Rand, text string) string {
	lines := strings.SplitAfter(text, "\n")
	at := roll.IntN(len(lines))
	words := []string{" ", "\t", ";", "\n", "\r", "-", "0", "9", "int", "none", "state", "halt", "both", "fold\n", "turn", "add", "A", "\xff", "99999999999999999999", " 1", "\n\n", "+"}
	switch roll.IntN(6) {
	case 0:
		return strings.Join(slices.Delete(lines, at, at+1), "")
	case 1:
		return strings.Join(slices.Insert(lines, at, lines[roll.IntN(len(lines))]), "")
	case 2:
		other := roll.IntN(len(lines))
		lines[at], lines[other] = lines[other], lines[at]
		return strings.Join(lines, "")
	case 3:
		return text[:roll.IntN(len(text)+1)]
	}
	spot := roll.IntN(len(text) + 1)
	to := min(len(text), spot+roll.IntN(3))
	return text[:spot] + words[roll.IntN(len(words))] + text[to:]
}

// P11.8: texts of all sorts against the second reading; and Parse(Print(c)) is c.
func TestParseAgainstForms(t *testing.T) {
	roll, all := dice(7), rows()
	wrong, refused, right := 0, 0, 0
	for range 1500 {
		c := oddCode(roll, all, 12, false)
		text, e := loom.Print(c)
		if ok, _, _ := (model{all, c}).check(); ok != (e == api.OK) {
			t.Fatalf("%v: %d", c, e)
		}
		if e != api.OK {
			continue
		}
		if got, e, line := loom.Parse(text); e != api.OK || line != 0 || !same(got, c) {
			t.Fatalf("%s: %d, %d, %v, not %v", text, e, line, got, c)
		}
		for range 4 {
			text = scrawl(roll, text)
			if text == "" {
				break
			}
			got, e, line := loom.Parse(text)
			want := faulty(text, all)
			switch {
			case want > 0:
				wrong++
				if e != api.ErrAssembly || line != want || !same(got, api.Code{}) {
					t.Fatalf("%q: %d, %d, not line %d", text, e, line, want)
				}
			case e == api.ErrCode:
				refused++
				if line != 0 || !same(got, api.Code{}) {
					t.Fatalf("%q: %d, %d", text, e, line)
				}
			default:
				right++
				if ok, _, _ := (model{all, got}).check(); e != api.OK || line != 0 || !ok {
					t.Fatalf("%q: %d, %d", text, e, line)
				}
			}
		}
	}
	if wrong < 1000 || refused < 100 || right < 50 {
		t.Errorf("%d wrong, %d refused, %d right", wrong, refused, right)
	}
}
