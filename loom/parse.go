package loom

import (
	"strconv"
	"strings"

	"sluice/api"
)

// Parse reads it; the line of the first fault (P11.8).
func Parse(text string) (api.Code, api.Errno, int) {
	if len(text) > api.MaxAsm {
		return api.Code{}, api.ErrLong, 0
	}
	d := &draft{table: newTable(), hand: ahead}
	number := 0
	for line := range strings.Lines(text) {
		number++
		if words := wordsOf(line); len(words) > 0 && !d.take(words) {
			return api.Code{}, api.ErrAssembly, number
		}
	}
	if d.hand < api.HandTurn {
		return api.Code{}, api.ErrAssembly, number + 1
	}
	if !d.table.takes(&d.code) {
		return api.Code{}, api.ErrCode, 0
	}
	return d.code, api.OK, 0
}

// wordsOf tells the words of a line.
func wordsOf(line string) []string {
	said, _, _ := strings.Cut(strings.TrimSuffix(line, "\n"), ";")
	return strings.FieldsFunc(said, func(r rune) bool { return r == ' ' || r == '\t' })
}

// draft is a code of which some lines were read.
type draft struct {
	table *table
	code  api.Code
	heads int // lines that were read ahead of the handlers, but for both
	hand  int // the handler whose instructions are being read
}

// take reads a line, and tells whether it is one that may stand there.
func (d *draft) take(words []string) bool {
	heads := [...]struct {
		name string
		read func(d *draft, words []string) bool
	}{
		{"state", (*draft).state}, {"agg", (*draft).agg}, {"ctl", (*draft).ctl}, {"message", (*draft).message}, {"sink", (*draft).sink},
	}
	name, rest := words[0], words[1:]
	switch {
	case d.heads < len(heads):
		head := heads[d.heads]
		d.heads++
		return name == head.name && head.read(d, rest)
	case d.hand < api.HandTurn && name == handNames[d.hand+1]:
		d.hand++
		return len(rest) == 0
	case d.hand == ahead:
		first := !d.code.Both
		d.code.Both = true
		return name == "both" && first && len(rest) == 0
	}
	return d.instruction(name, rest)
}

func (d *draft) state(words []string) bool {
	d.code.Words = len(words)
	return len(words) > 0 && kindsOf(words, d.code.State[:])
}

func (d *draft) agg(words []string) bool { return kindsOf(words, d.code.Agg[:]) }

func (d *draft) ctl(words []string) bool { return kindsOf(words, d.code.Ctl[:]) }

func (d *draft) message(words []string) bool {
	var kinds [2]api.WordKind
	ok := len(words) > 0 && kindsOf(words, kinds[:])
	d.code.MsgA, d.code.MsgB = kinds[0], kinds[1]
	return ok
}

func (d *draft) sink(words []string) bool {
	if len(words) != 4 {
		return false
	}
	a, okA := wholeOf(words[0])
	b, okB := wholeOf(words[2])
	monA, okMonA := monoidOf(words[1])
	monB, okMonB := monoidOf(words[3])
	d.code.Sink = api.Sink{A: int(a), MonA: monA, B: int(b), MonB: monB}
	return okA && okB && okMonA && okMonB
}

func (d *draft) instruction(name string, words []string) bool {
	op, ok := d.table.named(name)
	if !ok || len(d.code.Hands[d.hand]) == api.MaxIns {
		return false
	}
	ins := api.Ins{Op: op}
	if d.table[op].arg != noArg {
		if len(words) == 0 {
			return false
		}
		ins.Arg, ok = wholeOf(words[0])
		words = words[1:]
	}
	d.code.Hands[d.hand] = append(d.code.Hands[d.hand], ins)
	return ok && len(words) == 0
}

// kindsOf reads kinds, and tells whether they are some, and no more than there is room for.
func kindsOf(words []string, kinds []api.WordKind) bool {
	if len(words) > len(kinds) {
		return false
	}
	for i, word := range words {
		kind, ok := kindOf(word)
		if !ok {
			return false
		}
		kinds[i] = kind
	}
	return true
}

func kindOf(word string) (api.WordKind, bool) {
	for kind, name := range kindNames {
		if name == word {
			return api.WordKind(kind), true
		}
	}
	return 0, false
}

func monoidOf(word string) (api.Monoid, bool) {
	for monoid, name := range monoidNames {
		if name == word {
			return api.Monoid(monoid), true
		}
	}
	return 0, false
}

// wholeOf reads decimal digits with perhaps a - ahead of them, if they are an int64's.
func wholeOf(word string) (int64, bool) {
	n, err := strconv.ParseInt(word, 10, 64)
	return n, err == nil && !strings.HasPrefix(word, "+")
}
