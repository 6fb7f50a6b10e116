package stripe_test

import (
	"testing"

	"sluice/api"
	"sluice/stripe"
)

// dark lets a member have no power from now on.
func (r *rig) dark() { r.wait, r.fault = 0, api.Fault{Kind: api.FaultOff} }

// again lets the power of all go and come; none goes any more.
func (w *world) again(mode int) {
	for i, r := range w.rigs {
		r.hook, r.wait, r.blink = nil, -1, nil
		w.keep(r, (i+mode)%3)
	}
}

// Two Opens, each without a member that the other one has, begin their logs, and do not hear of each other: what the one has begun is not taken for what the other has (P5.7).
func TestOpensUnawareOfEachOther(t *testing.T) {
	opened := 0
	for n := 3; n < 6; n++ {
		for seed := range 3 * n {
			state := newWorld(t, dice(uint64(seed)), n, 16)
			state.create("a")
			state.append("a", state.some(40))
			state.sync("a")
			state.syncDir()
			state.strict = false
			first, second := seed%n, (seed+1+seed/n)%n
			for third := range n {
				if third == first || third == second {
					continue
				}
				for k := 0; ; k++ {
					w := state.twin()
					w.rigs[first].dark()
					r := w.rigs[third]
					r.wait, r.fault = k, api.Fault{Kind: api.FaultOff}
					if w.open(-1, false) {
						break
					}
					w.again(seed + k)
					w.rigs[second].dark()
					if w.open(-1, false) {
						opened++
						if seed%2 == 0 {
							w.create("new")
						} else {
							w.rename("a", "new")
						}
						w.syncDir()
					}
					w.again(seed + k)
					w.rigs[third].dark()
					w.open(-1, false)
					w.again(seed + k)
					w.open(-1, true)
					w.strict = true
					w.life2()
				}
			}
		}
	}
	if opened < 1000 {
		t.Errorf("the second Open was answered OK %d times", opened)
	}
}

// Behind a Replace power goes in the midst of Opens, of whichever members: when all have it again all is there, and nobody is out (P5.2, P5.7).
func TestOpensBrokenOffBehindReplace(t *testing.T) {
	for n := 3; n < 5; n++ {
		state := newWorld(t, dice(uint64(n)), n, 16)
		state.create("b")
		state.append("b", state.some(42))
		state.sync("b")
		state.syncDir()
		v := newRig(t, 1<<20)
		if e := state.s.Replace(0, v); e != api.OK {
			t.Fatal(e)
		}
		state.rigs[0] = v
		state.strict = false
		for i := range 6000 {
			w := state.twin()
			w.rng = dice(uint64(i))
			for range 2 + i%4 {
				for _, m := range w.rng.Perm(n)[:2] {
					w.rigs[m].wait, w.rigs[m].fault = w.rng.IntN([]int{6, 30}[w.rng.IntN(2)]), api.Fault{Kind: api.FaultOff}
				}
				w.open(-1, false)
				for _, r := range w.rigs {
					r.wait = -1
					r.Restart(w.rng.IntN(3)) // so many changes of the directory stay
				}
			}
			w.open(-1, true)
		}
	}
}

// brokenReplace gives a world in which the power of all has gone at an operation of a Replace of member 0, and come again, and the new volume; nil, if there is no such operation.
func brokenReplace(t *testing.T, n, k int) (*world, *rig) {
	t.Helper()
	w, v := laden(t, n, -1), newRig(t, 1<<20)
	w.strict = false
	all := &count{at: k}
	for _, r := range append(w.rigs[:n:n], v) {
		r.hook = all
	}
	if w.s.Replace(0, v) == api.OK {
		return nil, nil
	}
	w.again(k)
	v.hook, v.wait = nil, -1
	w.keep(v, 1)
	return w, v
}

// with gives the same world once more, with another volume as member 0.
func (w *world) with(r *rig) *world {
	c := w.twin()
	c.rigs[0] = &rig{Disk: r.Disk.Copy(), wait: -1}
	return c
}

// opensWithoutOne opens without each member.
func (w *world) opensWithoutOne() {
	w.t.Helper()
	for gone := range w.rigs {
		c := w.twin()
		c.rigs[gone].dark()
		c.open(gone, true)
	}
}

// The power of all goes at any operation of a Replace, then at any operation of an Open with the old volume or the new one: then all is there with either; and if it was the old one, without any other too (P5.7, P5.8).
func TestReplaceAndOpenBrokenOff(t *testing.T) {
	for n := 3; n < 6; n++ {
		for k := 0; ; k++ {
			state, v := brokenReplace(t, n, k)
			if state == nil {
				break
			}
			old := state.rigs[0]
			for j := k % 17; ; j += 17 {
				one, other := old, v
				if j%2 == 0 {
					one, other = v, old
				}
				first := state.with(one)
				if first.breakAt(j); first.s != state.s {
					break
				}
				first.twin().open(0, true)
				first.with(other).open(0, true)
				if one == old {
					first.opensWithoutOne()
				}
			}
		}
	}
}

// The same with two Opens, behind a Replace that all others had heard of.
func TestReplaceAndOpensBrokenOff(t *testing.T) {
	for n := 3; n < 5; n++ {
		last := 0
		for state, _ := brokenReplace(t, n, 0); state != nil; state, _ = brokenReplace(t, n, last) {
			last++
		}
		state, _ := brokenReplace(t, n, last-2)
		for j := 0; ; j += 2 {
			first := state.twin()
			if first.breakAt(j); first.s != state.s {
				break
			}
			for i := j % 9; ; i += 9 {
				second := first.twin()
				if second.breakAt(i); second.s != state.s {
					break
				}
				second.opensWithoutOne()
			}
		}
	}
}

// A log has turned bits; a Replace of another member begins a new one, and a new spell. Then the old volume is handed to Open in the place of the new one, and Opens are broken off: that is the only bad one, and what stays of the log with turned bits is nothing to anybody (P5.7).
func TestTurnedLogBehindReplace(t *testing.T) {
	for n := 3; n < 5; n++ {
		for turned := 1; turned < n; turned++ {
			state, v := laden(t, n, -1), newRig(t, 1<<20)
			state.syncDir()
			state.rigs[turned].Flip(newestLog(state.rigs[turned]), 99)
			if e := state.s.Replace(0, v); e != api.OK {
				t.Fatal(e)
			}
			state.strict = false
			for j := turned; ; j += 3 {
				first := state.twin()
				if first.breakAt(j); first.s != state.s {
					break
				}
				for i := j % 9; ; i += 9 {
					second := first.twin()
					if second.breakAt(i); second.s != state.s {
						break
					}
					second.twin().open(0, true)
					second.with(v).open(0, true)
				}
			}
		}
	}
}

// A Replace is refused, since v fails, and another member's power goes: the stripe goes on without that one. If v is handed to Open nothing is told, or all (P5.7, P5.8).
func TestReplaceRefusedThenHanded(t *testing.T) {
	handed := 0
	for k := range 40 {
		for j := range 60 {
			w := laden(t, 3, -1)
			w.strict = false
			v := newRig(t, 1<<20)
			v.wait, v.fault = k, api.Fault{Kind: api.FaultSync}
			w.rigs[2].wait, w.rigs[2].fault = j, api.Fault{Kind: api.FaultOff}
			if w.s.Replace(0, v) == api.OK {
				continue
			}
			w.create("new")
			w.syncDir()
			if w.half || w.s.Out() != 2 {
				continue
			}
			handed++
			w.again(1)
			w.keep(v, 1)
			w.rigs[0] = v
			v.wait = -1
			w.open(-1, false)
		}
	}
	if handed < 100 {
		t.Errorf("handed %d times", handed)
	}
}

// A member's power goes while a file is made durable, then that of another one while the log tells it: that the first one is out is told ahead of what it lacks (P5.7).
func TestOutIsToldFirst(t *testing.T) {
	for keep := range int64(50) {
		for j := range 30 {
			w := newWorld(t, dice(3), 3, 16)
			w.strict = false
			w.create("a")
			w.append("a", w.some(40))
			w.sync("a")
			w.syncDir()
			w.append("a", w.some(40))
			w.rigs[2].dark()
			r := w.rigs[1]
			r.wait, r.fault = 4, api.Fault{Kind: api.FaultOff}
			w.sync("a")
			if r.Lit() {
				t.Fatal("its power has not gone")
			}
			w.rigs[0].Restart(0)
			w.rigs[1].Restart(0, 0, keep)
			w.rigs[2].Restart(0)
			w.rigs[0].dark()
			w.rigs[2].wait, w.rigs[2].fault = j, api.Fault{Kind: api.FaultOff}
			w.open(-1, false)
			w.again(0)
			w.open(-1, true)
		}
	}
}

// Power alone goes, again and again, and most of all in the midst of Opens (P5.2, P5.7).
func TestPowerInOpens(t *testing.T) {
	for i := range 1500 {
		w := newWorld(t, dice(uint64(1000+i)), 3+i%3, 16)
		for range 15 {
			w.strict = false
			for range w.rng.IntN(10) {
				switch k := w.rng.IntN(100); {
				case k < 12:
					r := w.rng.IntN(len(w.rigs))
					w.say("off soon: %d", r)
					w.rigs[r].wait, w.rigs[r].fault = w.rng.IntN(12), api.Fault{Kind: api.FaultOff}
				case k < 18:
					w.replace(w.rng.IntN(len(w.rigs)))
				default:
					w.act()
				}
			}
			w.openBrokenOff()
		}
	}
}

// openBrokenOff opens, and lets power go on the way, till it is answered OK: at the latest when no power goes any more, and then nobody is out.
func (w *world) openBrokenOff() {
	w.t.Helper()
	loud, span, blinks := 1+w.rng.IntN(8), 4+w.rng.IntN(60), w.rng.IntN(4) == 0
	for try := 0; ; try++ {
		quiet := try > 12 || w.rng.IntN(loud) == 0
		w.again(w.rng.IntN(3))
		for i, r := range w.rigs {
			if quiet || w.rng.IntN(3) == 0 {
				continue
			}
			r.wait, r.fault = w.rng.IntN(span), api.Fault{Kind: api.FaultOff}
			if blinks && w.rng.IntN(2) == 0 {
				r.blink = func() { w.say("blink %d", i); w.restart(r) }
			}
			w.say("off in Open: %d at %d", i, r.wait)
		}
		if w.open(-1, quiet) {
			return
		}
	}
}

// One member is bad, in whatever way; the power of all goes at any operation, in Opens and Replaces too, again and again. Whichever of the volumes that a Replace was to bring to its place, or to take from it, is handed to Open, all is there (P5.7, P5.8).
func TestOneBadInOpens(t *testing.T) {
	for i := range 1000 {
		w := newWorld(t, dice(uint64(2000+i)), 3+i%3, 16)
		b := &badPlace{world: w}
		b.spell(nil)
		for range 15 {
			for range w.rng.IntN(12) {
				b.live()
			}
			for again := true; again && w.rng.IntN(4) > 0; {
				b.power()
				again = b.openBroken()
			}
			b.power()
			b.open()
		}
	}
}

// badPlace is a world with one bad place, and the volumes that may be handed to Open there.
type badPlace struct {
	*world
	bad    int
	spares []*rig
}

// spell begins when nobody is out: another member may be the bad one; perhaps one that was replaced just now.
func (b *badPlace) spell(was map[int]*rig) {
	b.rigs[max(b.bad, 0)].wait = -1
	b.bad, b.spares = b.rng.IntN(len(b.rigs)), nil
	if r := was[b.bad]; r != nil {
		b.spares = []*rig{r}
	}
}

// arm lets the power of all go soon.
func (b *badPlace) arm(span int) {
	all := b.rigs[0].all
	if all == nil {
		all = &machine{}
	}
	for i, r := range b.rigs {
		r.all = all
		if i != b.bad {
			r.wait, r.fault = b.rng.IntN(span), api.Fault{Kind: api.FaultOff}
		}
	}
	b.strict = false
}

func (b *badPlace) live() {
	b.t.Helper()
	switch k := b.rng.IntN(100); {
	case k < 12:
		b.say("ill %d", b.bad)
		b.ill(b.rigs[b.bad])
	case k < 16:
		b.say("power soon")
		b.arm(60)
	case k < 20:
		b.spares = append(b.spares, &rig{Disk: b.rigs[b.bad].Disk.Copy(), wait: -1})
	case k < 28:
		b.replaceOne()
	default:
		b.act()
	}
}

// replaceOne replaces the bad member, or another one.
func (b *badPlace) replaceOne() {
	b.t.Helper()
	m := b.bad
	if b.rng.IntN(3) == 0 {
		m = b.rng.IntN(len(b.rigs))
	}
	if b.rng.IntN(3) > 0 {
		b.arm(120)
	}
	if r := b.rigs[b.bad]; r.fault.Kind == api.FaultRot {
		r.wait = -1 // what it turns behind the last look is a fault of the next spell
	}
	was, v := b.rigs[m], newRig(b.t, 1<<28)
	v.all = was.all
	e := b.s.Replace(m, v)
	b.say("Replace(%d): %v, out %d", m, e, b.s.Out())
	switch {
	case e == api.OK:
		for _, f := range b.now {
			f.synced = len(f.data)
		}
		b.rigs[m] = v
		was.all = nil
		b.spell(map[int]*rig{m: was})
	case m == b.bad && b.strict:
		b.fail("Replace: %v", e)
	case m == b.bad:
		v.all = nil
		b.spares = append(b.spares, v)
	}
}

// power lets that of all go and come; in the bad place there may be another volume then.
func (b *badPlace) power() {
	for _, r := range b.rigs {
		b.keep(r, b.rng.IntN(3))
		if r.all != nil {
			r.all, r.wait = nil, -1
		}
	}
	if n := len(b.spares); n > 0 && b.rng.IntN(2) == 0 {
		b.say("another volume")
		k := b.rng.IntN(n)
		b.spares[k], b.rigs[b.bad] = b.rigs[b.bad], b.spares[k]
		b.keep(b.rigs[b.bad], b.rng.IntN(3))
	}
	if b.rng.IntN(3) == 0 {
		b.rigs[b.bad].Mend()
	}
	b.strict = true
}

// openBroken lets the power of all go in the midst of an Open; false, if that did not come.
func (b *badPlace) openBroken() bool {
	b.t.Helper()
	if b.rng.IntN(3) == 0 {
		b.ill(b.rigs[b.bad])
	}
	b.arm(2 + b.rng.IntN(60))
	all := b.rigs[0].all
	_, e := stripe.Open(b.volumes()...)
	b.say("Open, broken off: %v", e)
	if e != api.OK && !all.off {
		b.fail("Open: %v", e)
	}
	if e == api.OK {
		b.power()
		b.open()
	}
	return e != api.OK
}

func (b *badPlace) open() {
	b.t.Helper()
	b.openOneBad(b.bad)
	if b.s.Out() == -1 {
		b.spell(nil)
	}
}
