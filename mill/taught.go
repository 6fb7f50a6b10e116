package mill

import (
	"math"
	"slices"
	"strconv"
	"strings"

	"sluice/api"
	"sluice/lore"
	"sluice/roster"
)

// lesson is a program of the language that was taught.
type lesson struct {
	text string
}

// Teach tells a program of the language, under a name (P19.8).
func (m *Mill) Teach(name, text string) api.Errno {
	if !m.made() {
		return api.ErrNil
	}
	if !isName(name) {
		return api.ErrArg
	}
	if _, older := m.taught[name]; !older && len(m.taught) >= api.MaxTaught {
		return api.ErrLong
	}
	if _, err, _ := lore.Parse(text); err != api.OK {
		return err
	}
	m.taught[name] = lesson{strings.Clone(text)}
	return api.OK
}

// isName tells whether a graph could have this name.
func isName(name string) bool {
	isOther := func(c rune) bool { return (c < 'a' || c > 'z') && (c < '0' || c > '9') && c != '_' }
	return name != "" && len(name) <= api.MaxRunName && !strings.ContainsFunc(name, isOther)
}

// codeKernel is the one whose programs are taught.
func codeKernel() kernel {
	return kernel{
		fields: []field{programField(), fuelField()},
		rest:   (*Mill).study,
		maker: func(v values, _ api.Graph) (api.Program, api.Errno) {
			p, err, _ := lore.Weave(v.text, v.fuel, v.args...)
			return programOf(p, err)
		},
		row:   wordsRow,
		tells: tellTwo,
	}
}

// study finds the program that a job names, and reads its arguments.
func (m *Mill) study(j *job) api.Errno {
	known, taught := m.taught[j.lesson]
	if !taught {
		return api.ErrField
	}
	l, err, _ := lore.Parse(known.text)
	if err == api.OK {
		err, _, _ = lore.Check(l)
	}
	if err != api.OK {
		return err
	}
	j.text = known.text
	j.marks = append(j.marks, j.text)
	for _, e := range j.Rest {
		arg, err := argument(l, e)
		if err != api.OK {
			return err
		}
		j.args = append(j.args, arg)
		j.mark(e.Name, e.Value)
	}
	return api.OK
}

// argument reads an entry as what one of the program's params stands for.
func argument(l api.Lore, e api.Entry) (api.LoreArg, api.Errno) {
	name, isArg := strings.CutPrefix(e.Name, "arg.")
	at := slices.IndexFunc(l.Decls, func(d api.LoreDecl) bool { return d.Class == api.LoreParam && d.Name == name })
	if !isArg || at < 0 {
		return api.LoreArg{}, api.ErrField
	}
	kind := l.Decls[at].Kind
	word, err := argumentWord(kind, e.Value)
	return api.LoreArg{Name: name, Kind: kind, Word: word}, err
}

func argumentWord(kind api.WordKind, text string) (uint64, api.Errno) {
	switch {
	case kind == api.WordInt:
		n, err := whole(text, math.MinInt64, math.MaxInt64)
		return uint64(n), err
	case kind == api.WordReal:
		bits, err := roster.Real(sheet(text))
		return uint64(bits), err
	case text == "true":
		return 1, api.OK
	case text == "false":
		return 0, api.OK
	}
	return 0, api.ErrField
}

// wordsRow is a row of all words that are kept.
func wordsRow(s api.State, words int) string {
	var row []string
	for _, word := range s[:words] {
		digits := strconv.FormatUint(word, 16)
		row = append(row, strings.Repeat("0", 16-len(digits))+digits)
	}
	return strings.Join(row, " ")
}
