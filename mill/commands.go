package mill

import (
	"strconv"
	"strings"

	"sluice/api"
)

// takes gives up, if a command has not so many words behind its first.
func takes(words []string, count int) {
	if len(words) != count {
		panic(noCommand{})
	}
}

// number reads a word as a number, or gives up.
func number(word string) int64 {
	n, err := strconv.ParseInt(word, 10, 64)
	if err != nil || strings.HasPrefix(word, "+") {
		panic(noCommand{})
	}
	return n
}

func (c *clerk) load(words []string) (string, api.Errno) {
	takes(words, 0)
	config, input := c.block(), c.block()
	return c.plant(config, []byte(input))
}

func (c *clerk) loadHex(words []string) (string, api.Errno) {
	takes(words, 0)
	config, input := c.block(), c.block()
	return c.plant(config, unhexed(input))
}

// plant loads a graph.
func (c *clerk) plant(config string, input []byte) (string, api.Errno) {
	g, err := c.mill.Load(config, input)
	return "vertices " + decimal(uint64(g.N)) + " edges " + strconv.FormatInt(g.Edges, 10) + " parts " + strconv.Itoa(g.Parts), err
}

// unhexed reads bytes of two hex digits each, with blanks and lines between, or gives up.
func unhexed(text string) []byte {
	var input []byte
	digits := 0
	for i := range len(text) {
		if text[i] == ' ' || text[i] == '\n' {
			continue
		}
		if digits%2 == 0 {
			input = append(input, 0)
		}
		input[digits/2] = input[digits/2]<<4 | hexDigit(text[i])
		digits++
	}
	if digits%2 != 0 {
		panic(noCommand{})
	}
	return input
}

// hexDigit reads one, or gives up.
func hexDigit(c byte) byte {
	switch {
	case c >= '0' && c <= '9':
		return c - '0'
	case c >= 'a' && c <= 'f':
		return c - 'a' + 10
	case c >= 'A' && c <= 'F':
		return c - 'A' + 10
	}
	panic(noCommand{})
}

func (c *clerk) teach(words []string) (string, api.Errno) {
	takes(words, 1)
	return "", c.mill.Teach(words[0], c.block())
}

func (c *clerk) run(words []string) (string, api.Errno) {
	takes(words, 0)
	o, err := c.mill.Run(c.block())
	return o.Text, err
}

func (c *clerk) resume(words []string) (string, api.Errno) {
	takes(words, 0)
	o, err := c.mill.Resume(c.block())
	return o.Text, err
}

func (c *clerk) rows(words []string) (string, api.Errno) {
	takes(words, 0)
	t, err := c.mill.Rows(c.block())
	if err != api.OK {
		return "", err
	}
	defer t.Close()
	for v, row := range t.All() {
		c.tell(decimal(uint64(v)) + " " + row)
	}
	return "", t.Code()
}

func (c *clerk) audit(words []string) (string, api.Errno) {
	takes(words, 0)
	verdict, err := c.mill.Audit(c.block())
	if verdict.Right {
		return "right", err
	}
	return "wrong", err
}

func (c *clerk) wipe(words []string) (string, api.Errno) {
	takes(words, 1)
	return "", c.mill.Wipe(words[0])
}

func (c *clerk) uproot(words []string) (string, api.Errno) {
	takes(words, 1)
	return "", c.mill.Uproot(words[0])
}

// restart: a word for each disk, numbers with a comma between.
func (c *clerk) restart(words []string) (string, api.Errno) {
	var keep []api.Keep
	for _, word := range words {
		var numbers []int64
		for part := range strings.SplitSeq(word, ",") {
			numbers = append(numbers, number(part))
		}
		keep = append(keep, api.Keep{Dir: int(numbers[0]), Bytes: numbers[1:]})
	}
	return "", c.mill.Restart(keep...)
}

func (c *clerk) swap(words []string) (string, api.Errno) {
	takes(words, 1)
	return "", c.mill.Swap(int(number(words[0])))
}

func (c *clerk) purse(words []string) (string, api.Errno) {
	takes(words, 0)
	_, used, high := c.mill.Purse()
	return strconv.Itoa(used) + " " + strconv.Itoa(high), api.OK
}
