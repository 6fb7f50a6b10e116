package loom

import (
	"strconv"
	"strings"

	"sluice/api"
)

// The words of a text, by their numbers.
var (
	kindNames   = [...]string{"none", "int", "real", "bool", "tally"}
	monoidNames = [...]string{"none", "min", "max", "minint", "maxint", "add", "and", "or", "nibbles", "tally"}
	handNames   = [...]string{"start", "scatter", "apply", "fold", "turn"}
)

// Print writes a code as a text (P11.7).
func Print(c api.Code) (string, api.Errno) {
	t := newTable()
	if !t.takes(&c) {
		return "", api.ErrCode
	}
	var text strings.Builder
	say := func(words ...string) { text.WriteString(strings.Join(words, " ") + "\n") }
	say(kindsLine("state", c.State[:])...)
	say(kindsLine("agg", c.Agg[:])...)
	say(kindsLine("ctl", c.Ctl[:])...)
	say(kindsLine("message", []api.WordKind{c.MsgA, c.MsgB})...)
	say("sink", strconv.Itoa(c.Sink.A), monoidNames[c.Sink.MonA], strconv.Itoa(c.Sink.B), monoidNames[c.Sink.MonB])
	if c.Both {
		say("both")
	}
	for hand, list := range c.Hands {
		say(handNames[hand])
		for _, ins := range list {
			say(" ", t.phrase(ins)) // the first blank stands for itself, the second parts it from the name
		}
	}
	return text.String(), api.OK
}

// kindsLine is a name with kinds behind it, without the nones at their end.
func kindsLine(name string, kinds []api.WordKind) []string {
	words := []string{name}
	last := 0
	for _, kind := range kinds {
		words = append(words, kindNames[kind])
		if kind != api.WordNone {
			last = len(words) - 1
		}
	}
	return words[:last+1]
}

// phrase is an instruction in words.
func (t *table) phrase(ins api.Ins) string {
	if t[ins.Op].arg == noArg {
		return t[ins.Op].name
	}
	return t[ins.Op].name + " " + strconv.FormatInt(ins.Arg, 10)
}
