package stripe_test

import (
	"math"
	"math/rand/v2"
	"strconv"
	"testing"

	"sluice/api"
	"sluice/grain"
	"sluice/stripe"
)

// liar is a volume that now and then answers what comes to its mind.
type liar struct {
	api.Volume
	rng  *rand.Rand
	odds int // one in so many answers is a lie; 0: none
}

func (l *liar) lies() bool { return l.odds > 0 && l.rng.IntN(l.odds) == 0 }

// err is a lie of a call that writes: it tells an error, or that it was done.
func (l *liar) err() api.Errno {
	return []api.Errno{api.OK, api.OK, api.OK, api.ErrIO, api.ErrOff, api.ErrNoFile, api.ErrTaken, api.ErrQuota, api.ErrVolName, 99, -1}[l.rng.IntN(11)]
}

func (l *liar) write(do func() api.Errno) api.Errno {
	if l.lies() {
		return l.err()
	}
	e := do()
	if l.lies() {
		return l.err()
	}
	return e
}

func (l *liar) Create(name string) api.Errno {
	return l.write(func() api.Errno { return l.Volume.Create(name) })
}
func (l *liar) Append(name string, b []byte) api.Errno {
	return l.write(func() api.Errno { return l.Volume.Append(name, b) })
}
func (l *liar) Sync(name string) api.Errno {
	return l.write(func() api.Errno { return l.Volume.Sync(name) })
}
func (l *liar) SyncDir() api.Errno { return l.write(l.Volume.SyncDir) }
func (l *liar) Rename(from, to string) api.Errno {
	return l.write(func() api.Errno { return l.Volume.Rename(from, to) })
}
func (l *liar) Remove(name string) api.Errno {
	return l.write(func() api.Errno { return l.Volume.Remove(name) })
}

func (l *liar) Size(name string) (int64, api.Errno) {
	n, e := l.Volume.Size(name)
	if l.lies() {
		return []int64{0, -1, n + 1, n - 1, n / 2, 100, math.MaxInt64, math.MinInt64, 1 << 20}[l.rng.IntN(9)], l.err()
	}
	return n, e
}

func (l *liar) List() ([]string, api.Errno) {
	names, e := l.Volume.List()
	if !l.lies() {
		return names, e
	}
	switch l.rng.IntN(4) {
	case 0:
		return nil, l.err()
	case 1:
		return append(names, "log-00000009", "log-ffffffff", "data-0000000100000001", "fresh-1", "x"), api.OK
	case 2:
		return append(names, names...), api.OK
	}
	if len(names) > 0 {
		names = names[:l.rng.IntN(len(names))]
	}
	return names, api.OK
}

func (l *liar) ReadAt(name string, at int64, b []byte) (int, api.Errno) {
	if !l.lies() {
		return l.Volume.ReadAt(name, at, b)
	}
	names, _ := l.Volume.List()
	switch l.rng.IntN(4) {
	case 0: // of another file, or from elsewhere
		if len(names) > 0 {
			name = names[l.rng.IntN(len(names))]
		}
		n, _ := l.Volume.ReadAt(name, at+l.rng.Int64N(3)-1, b)
		return n, api.OK
	case 1:
		return []int{0, -1, len(b) + 1, math.MaxInt, math.MinInt}[l.rng.IntN(5)], l.err()
	case 2:
		for i := range b {
			b[i] = byte(l.rng.Uint32())
		}
		return len(b), api.OK
	}
	n, e := l.Volume.ReadAt(name, at, b)
	return min(n, l.rng.IntN(len(b)+1)), e
}

// One member lies as it likes: every call answers as if it did not.
func TestLiar(t *testing.T) {
	for i := range 300 {
		n, unit := sizes(i)
		w := newWorld(t, dice(uint64(i)), n, unit)
		bad := w.rng.IntN(n)
		l := &liar{w.rigs[bad], w.rng, 1 << w.rng.IntN(7)}
		members := w.volumes()
		members[bad] = l
		open := func() {
			t.Helper()
			s, e := stripe.Open(members...)
			if e != api.OK || s.Out() != -1 && s.Out() != bad {
				w.fail("Open: %v", e)
			}
			w.reopened(s, w.sure, true)
		}
		open()
		for range 200 {
			switch w.rng.IntN(40) {
			case 0:
				w.say("power")
				for _, r := range w.rigs {
					w.restart(r)
				}
				open()
			case 1:
				w.say("open")
				open()
			case 2:
				l.odds = 1 << w.rng.IntN(7)
			default:
				w.act()
			}
			if r, e := w.s.Scrub(); e != api.OK || r.Lost != 0 {
				w.fail("Scrub: %v %v", r, e)
			}
		}
		w.readAll()
	}
}

// forged gives a log whose sums are right, but whose chart says of a Replace what can't be.
func forged(gen uint32, member int, joining, out byte) []byte {
	number := func(b []byte, width int, v uint32) []byte {
		b = append(b, make([]byte, width)...)
		grain.Put(b, len(b)-width, width, uint64(v))
		return b
	}
	record := func(log []byte, kind byte, seq uint32, body []byte) []byte {
		head := number(number([]byte{kind}, 4, seq), 4, uint32(len(body)))
		sum := grain.More(gen, head)
		log = append(number(append(log, head...), 4, sum), body...)
		return number(log, 4, grain.More(sum, body))
	}
	chart := []byte{joining, out}
	for range 3 {
		chart = number(chart, 4, 2)
	}
	log := record(nil, 1, 0, number(number([]byte{3, byte(member)}, 4, 16), 4, 1))
	return record(log, 2, 1, number(chart, 4, 0))
}

// Whatever lies on members, Open answers.
func TestForgedLogs(t *testing.T) {
	for joining := range 256 {
		var l []api.Volume
		for m, gen := range []uint32{5, 5, 6} {
			d := disks(t, 1)[0]
			name := "log-0000000" + strconv.Itoa(int(gen))
			d.Create(name)
			d.Append(name, forged(gen, m, byte(joining), byte(joining/2)))
			l = append(l, d)
		}
		s, e := stripe.Open(l...)
		if joining == 0 && (e != api.OK || s.Out() != -1) {
			t.Fatalf("a log that is none of a Replace: %v", e)
		}
		if joining > 3 && e != api.ErrTwo {
			t.Fatalf("a Replace of member %d: %v", joining-1, e)
		}
	}
}
