package mill

import (
	"slices"
	"strconv"
	"strings"

	"sluice/api"
)

// Script does a whole text of commands, and answers a text (P19.10).
func (m *Mill) Script(text string) string {
	if !m.made() {
		return ""
	}
	c := &clerk{mill: m, rest: text}
	if len(text) > api.MaxScript {
		c.tell("error " + strconv.Itoa(int(api.ErrLong)))
	} else {
		c.work()
	}
	return c.answers.String()
}

// clerk does a script: what is left of it, and what was answered so far.
type clerk struct {
	mill    *Mill
	rest    string
	answers strings.Builder
}

// noCommand is what a line that is none gives up with.
type noCommand struct{}

// command does what a line asks for, given the words behind its first; it tells what stands behind the ok, or an error.
type command func(c *clerk, words []string) (string, api.Errno)

func commands() map[string]command {
	return map[string]command{
		"load":    (*clerk).load,
		"loadhex": (*clerk).loadHex,
		"teach":   (*clerk).teach,
		"run":     (*clerk).run,
		"resume":  (*clerk).resume,
		"rows":    (*clerk).rows,
		"audit":   (*clerk).audit,
		"wipe":    (*clerk).wipe,
		"uproot":  (*clerk).uproot,
		"restart": (*clerk).restart,
		"swap":    (*clerk).swap,
		"purse":   (*clerk).purse,
	}
}

// work does command by command, till the script ends or a line is none.
func (c *clerk) work() {
	defer func() {
		switch given := recover().(type) {
		case nil:
		case noCommand:
			c.answer("", api.ErrScript)
		default:
			panic(given)
		}
	}()
	known := commands()
	for line, more := c.line(); more; line, more = c.line() {
		if line == "" {
			continue
		}
		words := strings.Split(line, " ")
		do, is := known[words[0]]
		if !is || slices.Contains(words, "") {
			panic(noCommand{})
		}
		c.answer(do(c, words[1:]))
	}
}

// line takes the next line, if there is one.
func (c *clerk) line() (string, bool) {
	if c.rest == "" {
		return "", false
	}
	line, rest, _ := strings.Cut(c.rest, "\n")
	c.rest = rest
	return line, true
}

// block takes the lines up to the one that ends it.
func (c *clerk) block() string {
	from := c.rest
	for {
		size := len(from) - len(c.rest)
		line, more := c.line()
		if !more {
			panic(noCommand{})
		}
		if line == "." {
			return from[:size]
		}
	}
}

// tell writes a line.
func (c *clerk) tell(line string) {
	c.answers.WriteString(line)
	c.answers.WriteByte('\n')
}

// answer writes what a command has come to.
func (c *clerk) answer(said string, err api.Errno) {
	switch {
	case err != api.OK:
		c.tell("error " + strconv.Itoa(int(err)) + " " + strconv.Itoa(int(Class(err))))
	case said == "":
		c.tell("ok")
	default:
		c.tell("ok " + said)
	}
}
