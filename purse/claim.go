package purse

import (
	"strings"

	"sluice/api"
)

// claim is a place among what a purse has out: a part has one, and so has a lease, whatever its elements are. All of its methods but lock are for who has the guard.
type claim struct {
	of     *Purse
	serial int
}

// label joins a tag, if the purse can file it.
func (p *Purse) label(tag []string) (string, api.Errno) {
	if p.closed {
		return "", api.ErrClosed
	}
	size := len(tag) - 1
	for _, text := range tag {
		size += len(text)
		if size > api.MaxTag { // asked ahead of joining, so that no long text is made
			return "", api.ErrLong
		}
	}
	return strings.Join(tag, "/"), api.OK
}

// file takes the next serial for so many words.
func (p *Purse) file(words int, label string) (claim, api.Errno) {
	if err := p.draw(words); err != api.OK {
		return claim{}, err
	}
	p.last++
	p.out[p.last] = api.Held{Serial: p.last, Tag: label, Words: words}
	return claim{p, p.last}, api.OK
}

func (p *Purse) left() int { return p.words - p.used }

// draw lets further words out, or takes some back (below 0).
func (p *Purse) draw(words int) api.Errno {
	if words > p.left() {
		p.refused++
		return api.ErrSpent
	}
	p.used += words
	p.high = max(p.high, p.used)
	return api.OK
}

func (c *claim) lock()   { c.of.guard.Lock() }
func (c *claim) unlock() { c.of.guard.Unlock() }

// cost tells its words; it is open only as long as the purse has it out.
func (c *claim) cost() (words int, open bool) {
	held, open := c.of.out[c.serial]
	return held.Words, open
}

// alter makes it one of so many words: only what they are more is drawn, so that old and new are never out together.
func (c *claim) alter(words int) api.Errno {
	held := c.of.out[c.serial]
	if err := c.of.draw(words - held.Words); err != api.OK {
		return err
	}
	held.Words = words
	c.of.out[c.serial] = held
	return api.OK
}

// end gives its words back.
func (c *claim) end() {
	words, _ := c.cost()
	c.of.draw(-words)
	delete(c.of.out, c.serial)
}
