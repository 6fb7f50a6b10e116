package stripe_test

import (
	"testing"

	"sluice/api"
	"sluice/stripe"
)

// life is what a stripe lives through in these tests.
func (w *world) life() {
	w.t.Helper()
	w.create("a")
	w.append("a", w.some(100))
	w.sync("a")
	w.syncDir()
	w.append("a", w.some(21))
	w.create("t")
	w.append("t", w.some(70))
	w.sync("t")
	w.rename("t", "b")
	w.readAll()
	w.syncDir()
	w.rename("b", "a")
	w.create("c")
	w.append("c", w.some(5))
	w.append("c", w.some(64))
	w.sync("c")
	w.syncDir()
	w.create("d")
	w.remove("c")
	w.append("a", w.some(33))
	w.readAll()
	w.sync("a")
	w.syncDir()
}

// count of the operations of one life, over all members.
func lifeOps(t *testing.T, n int) int {
	w := newWorld(t, dice(9), n, 16)
	all := &count{at: 1 << 30}
	for _, r := range w.rigs {
		r.hook = all
	}
	w.life()
	return all.made
}

// Of one member any fault strikes at any operation: every call answers as if there were none; if it was a call that writes, the member is out, and is not written any more (P5.5, P5.9).
func TestEachFault(t *testing.T) {
	for n := 3; n < 6; n += 2 {
		for kind := api.FaultRead; kind <= api.FaultDown; kind++ {
			for m := range n {
				for k := 0; ; k++ {
					w := newWorld(t, dice(9), n, 16)
					r := w.rigs[m]
					r.wait, r.fault = k, api.Fault{Kind: kind, N: int64(7 * k)}
					w.life()
					if r.wait >= 0 {
						break
					}
					if out := w.s.Out(); out != m && (out != -1 || r.erred > 0) {
						w.fail("kind %d at %d of %d: out %d, errors of writing calls %d", kind, k, m, w.s.Out(), r.erred)
					}
					if r.erred > 1 {
						w.fail("kind %d at %d of %d: it is still written: %d errors", kind, k, m, r.erred)
					}
					if got, e := w.s.Scrub(); e != api.OK || got.Lost != 0 || got.Files != 2 {
						w.fail("kind %d at %d of %d: Scrub: %v %v", kind, k, m, got, e)
					}
					w.comesAgain(m, k%3)
				}
			}
		}
	}
}

// comesAgain lets the power of all go and come; only member m was bad.
func (w *world) comesAgain(m, mode int) {
	w.t.Helper()
	for _, r := range w.rigs {
		r.hook = nil
		r.wait = -1
		switch mode {
		case 0:
			r.Disk.Restart(0)
		case 1:
			r.Disk.Restart(1<<20, 1<<20, 1<<20, 1<<20, 1<<20, 1<<20, 1<<20, 1<<20)
		default:
			w.restart(r)
		}
	}
	lit := m < 0 || w.rigs[m].Lit()
	s, e := stripe.Open(w.volumes()...)
	if e != api.OK || lit && s.Out() != -1 && s.Out() != m || !lit && s.Out() != m {
		w.fail("Open: %v, out %d", e, s.Out())
	}
	w.strict = true
	w.reopened(s, w.sure, true)
	if got, e := s.Scrub(); s.Out() < 0 && (e != api.OK || got != api.Scrubbed{Files: len(w.now)}) {
		w.fail("Scrub of a new spell: %v %v", got, e)
	}
}

// The power of all goes at any operation (P5.7), and again in the midst of the Open.
func TestPowerAtEachOperation(t *testing.T) {
	for n := 3; n < 6; n += 2 {
		ops := lifeOps(t, n)
		for k := range ops {
			for mode := range 3 {
				w := newWorld(t, dice(9), n, 16)
				w.strict = false
				all := &count{at: k}
				for _, r := range w.rigs {
					r.hook = all
				}
				w.life()
				for j := k % 5; ; j += 5 {
					all := &count{at: j}
					for _, r := range w.rigs {
						w.restart(r)
						r.hook, r.wait = all, -1
					}
					s, e := stripe.Open(w.volumes()...)
					if e == api.OK {
						break
					}
					if s != nil || e != api.ErrTwo && e != api.ErrOff || all.made < j {
						w.fail("Open in whose midst the power goes: %v", e)
					}
				}
				w.comesAgain(-1, mode)
				w.life2()
			}
		}
	}
}

// life2 goes on with whatever is there.
func (w *world) life2() {
	w.t.Helper()
	for name := range w.now {
		w.append(name, w.some(40))
		w.sync(name)
	}
	w.syncDir()
	w.readAll()
}

// The power of one member goes at any operation, that of another one behind it (P5.7).
func TestTwoPowers(t *testing.T) {
	for n := 3; n < 5; n++ {
		ops := lifeOps(t, n) / n
		for k := range ops {
			for j := range ops {
				w := newWorld(t, dice(9), n, 16)
				w.strict = false
				for i, wait := range [...]int{k, j} {
					r := w.rigs[(k+i)%n]
					r.wait, r.fault = wait, api.Fault{Kind: api.FaultOff}
				}
				w.life()
				w.comesAgain(-1, (k+j)%3)
			}
		}
	}
}

// Behind a Replace, or an Open that leaves none out, each other member may be the bad one (P5.11, P5.12).
func TestOneAfterAnother(t *testing.T) {
	for n := api.MinMembers; n <= api.MaxMembers; n++ {
		w := newWorld(t, dice(uint64(n)), n, 16)
		for round := range 4 * n {
			bad := round % n
			w.rigs[bad].wait, w.rigs[bad].fault = round, api.Fault{Kind: api.FaultDown}
			w.life2()
			w.create("f")
			w.append("f", w.some(round))
			w.sync("f")
			w.syncDir()
			if round%2 == 0 {
				v := newRig(t, 1<<28)
				if e := w.s.Replace(bad, v); e != api.OK || w.s.Out() != -1 {
					w.fail("Replace: %v", e)
				}
				w.rigs[bad] = v
			} else {
				w.rigs[bad].Mend()
				w.comesAgain(bad, round%3)
				if w.s.Out() != -1 {
					w.fail("a member that works again is out: %d", w.s.Out())
				}
			}
			w.readAll()
		}
	}
}
