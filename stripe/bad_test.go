package stripe_test

import (
	"testing"

	"sluice/api"
	"sluice/stripe"
)

func sizes(i int) (n, unit int) { return 3 + i%6, []int{16, 17, 40, 512}[i/6%4] }

// ill makes a member bad in some way.
func (w *world) ill(r *rig) {
	r.wait = w.rng.IntN(12)
	r.fault = api.Fault{Kind: 1 + w.rng.IntN(9), N: int64(w.rng.IntN(2000))}
	switch w.rng.IntN(12) {
	case 0:
		w.say("restart alone")
		w.restart(r)
	case 1:
		r.Mend()
	case 2:
		for _, f := range r.Stats() {
			if f.Size > 0 && w.rng.IntN(3) == 0 {
				r.Flip(f.Name, w.rng.Int64N(8*f.Size))
			}
		}
	}
}

// At most one is bad, in whatever way; power of all may go, at any operation.
func TestOneBad(t *testing.T) {
	for i := range 400 {
		n, unit := sizes(i)
		w := newWorld(t, dice(uint64(i)), n, unit)
		w.oneBad(300)
	}
}

func (w *world) oneBad(steps int) {
	w.t.Helper()
	n := len(w.rigs)
	bad := w.rng.IntN(n)
	var clone *rig
	healed := func() {
		if w.s.Out() != -1 {
			return
		}
		w.rigs[bad].wait = -1
		if r, e := w.s.Scrub(); e != api.OK || r != (api.Scrubbed{Files: len(w.now)}) {
			w.fail("Scrub of a new spell: %v %v", r, e)
		}
		bad, clone = w.rng.IntN(n), nil
	}
	for range steps {
		switch k := w.rng.IntN(100); {
		case k < 8:
			w.say("ill %d", bad)
			w.ill(w.rigs[bad])
		case k < 10:
			w.say("power soon")
			all := w.rigs[0].all
			if all == nil {
				all = &machine{}
			}
			for _, r := range w.rigs {
				r.all = all
			}
			r := w.rigs[w.rng.IntN(n)]
			r.wait, r.fault, w.strict = w.rng.IntN(30), api.Fault{Kind: api.FaultOff}, false
		case k < 13:
			w.say("power, bad %d", bad)
			for again := true; again; {
				again = w.rng.IntN(2) == 0 && w.breakOpen(bad)
			}
			if w.rng.IntN(2) == 0 {
				w.rigs[bad].Mend()
			}
			if clone != nil && w.rng.IntN(3) == 0 {
				w.say("clone")
				w.rigs[bad] = clone
			}
			w.cut()
			w.openOneBad(bad)
			healed()
		case k < 14 && w.strict:
			if w.replace(bad) {
				healed()
			}
		case k < 15:
			clone = &rig{Disk: w.rigs[bad].Disk.Copy(), wait: -1}
		default:
			w.act()
		}
		if r, e := w.s.Scrub(); e != api.OK || r.Files != len(w.now) || w.strict && r.Lost != 0 {
			w.fail("Scrub: %v %v", r, e)
		}
	}
	if w.strict {
		w.readAll()
	}
}

// cut lets the power of all members go and come, if it has gone, or by chance.
func (w *world) cut() {
	if w.strict && w.rng.IntN(3) == 0 {
		return
	}
	for _, r := range w.rigs {
		w.restart(r)
		if r.all != nil {
			r.all, r.wait = nil, -1
		}
	}
	w.strict = true
}

func (w *world) openOneBad(bad int) {
	w.t.Helper()
	r := w.rigs[bad]
	if r.fault.Kind == api.FaultRot {
		r.wait = -1 // of what Open writes it would be a fault of the next spell
	}
	s, e := stripe.Open(w.volumes()...)
	if e != api.OK {
		w.fail("Open: %v", e)
	}
	if s.Out() != -1 && s.Out() != bad {
		w.fail("out %d", s.Out())
	}
	if s.Out() == -1 {
		r.wait = -1
	}
	w.say("opened, out %d", s.Out())
	w.reopened(s, w.sure, true)
}

// breakOpen lets the power of all go in the midst of an Open; false, if that did not come.
func (w *world) breakOpen(bad int) bool {
	w.t.Helper()
	w.cut()
	all := &machine{}
	r := w.rigs[w.rng.IntN(len(w.rigs))]
	r.wait, r.fault = w.rng.IntN(60), api.Fault{Kind: api.FaultOff}
	for _, r := range w.rigs {
		r.all = all
	}
	s, e := stripe.Open(w.volumes()...)
	w.say("Open, broken off: %v", e)
	w.strict = false
	if e != api.OK {
		if !all.off {
			w.fail("Open: %v", e)
		}
		return true
	}
	w.cut()
	_ = s
	return false
}

// Power alone goes, of whichever members, whenever, one ahead of the other.
func TestPowerOnly(t *testing.T) {
	for i := range 400 {
		n, unit := sizes(i)
		w := newWorld(t, dice(uint64(i)), n, unit)
		w.powerOnly(300)
	}
}

func (w *world) powerOnly(steps int) {
	w.t.Helper()
	n := len(w.rigs)
	w.strict = false
	for range steps {
		switch k := w.rng.IntN(100); {
		case k < 8:
			r := w.rng.IntN(n)
			w.say("off soon: %d", r)
			w.rigs[r].wait, w.rigs[r].fault = w.rng.IntN(12), api.Fault{Kind: api.FaultOff}
		case k < 10:
			r := w.rng.IntN(n)
			w.say("restart alone: %d", r)
			w.restart(w.rigs[r])
		case k < 15:
			r := w.rigs[w.rng.IntN(n)]
			w.say("blink soon")
			r.wait, r.blink = w.rng.IntN(5), func() { w.say("blink"); w.restart(r) }
		case k < 19:
			w.openAgain()
		case k < 21:
			w.replace(w.rng.IntN(n))
		default:
			w.act()
		}
	}
	w.openAgain()
}

// replace puts a new disk in the place of a member, or leaves all as it was.
func (w *world) replace(member int) bool {
	w.t.Helper()
	v := newRig(w.t, 1<<28)
	out := w.s.Out()
	if w.rng.IntN(3) == 0 {
		v.wait, v.fault = w.rng.IntN(20), api.Fault{Kind: api.FaultOff}
	}
	e := w.s.Replace(member, v)
	w.say("Replace(%d): %v, out %d", member, e, w.s.Out())
	switch e {
	case api.OK:
		if w.s.Out() != -1 || w.half {
			w.fail("Replace: out %d, half %v", w.s.Out(), w.half)
		}
		v.wait = -1
		w.rigs[member] = v
		for _, f := range w.now {
			f.synced = len(f.data)
		}
	case api.ErrTwo, api.ErrOff, api.ErrHalf, api.ErrIO, api.ErrQuota:
		if w.strict && v.Lit() || out >= 0 && w.s.Out() != out {
			w.fail("Replace: %v, out %d", e, w.s.Out())
		}
	default:
		w.fail("Replace: %v", e)
	}
	w.look()
	return e == api.OK
}

// openAgain opens, perhaps with some powerless members, or in such a way that power goes on the way, till it is answered OK; at the latest when all have power.
func (w *world) openAgain() {
	w.t.Helper()
	for try := 0; ; try++ {
		quiet := try > 3 || w.rng.IntN(2) == 0
		for i, r := range w.rigs {
			switch w.rng.IntN(4) {
			case 0:
				if !quiet {
					w.say("stays: %d", i)
					continue
				}
			case 1:
				if r.Lit() {
					continue // without having gone
				}
			}
			w.restart(r)
		}
		for i, r := range w.rigs {
			r.wait, r.blink = -1, nil
			if !quiet && w.rng.IntN(4) == 0 {
				r.wait, r.fault = w.rng.IntN(60), api.Fault{Kind: api.FaultOff}
				if w.rng.IntN(2) == 0 {
					r.blink = func() { w.say("blink"); w.restart(r) }
				}
				w.say("off in Open: %d at %d", i, r.wait)
			}
		}
		s, e := stripe.Open(w.volumes()...)
		w.say("Open: %v", e)
		if e == api.OK {
			for _, r := range w.rigs {
				r.wait, r.blink = -1, nil
			}
			w.say("out %d", s.Out())
			w.reopened(s, w.sure, true)
			return
		}
		if quiet || e != api.ErrTwo && e != api.ErrOff {
			w.fail("Open: %v", e)
		}
	}
}

// Whatever strikes, of whichever members.
func TestAnyFaults(t *testing.T) {
	opened := 0
	for i := range 400 {
		n, unit := sizes(i)
		w := newWorld(t, dice(uint64(i)), n, unit)
		w.strict = false
		for range 300 {
			switch k := w.rng.IntN(100); {
			case k < 6:
				r := w.rng.IntN(n)
				w.say("ill: %d", r)
				w.ill(w.rigs[r])
			case k < 7:
				w.replace(w.rng.IntN(n))
			case k < 11:
				for _, r := range w.rigs {
					if w.rng.IntN(3) > 0 {
						w.restart(r)
						r.Mend()
					}
				}
				s, e := stripe.Open(w.volumes()...)
				w.say("Open: %v", e)
				if e == api.OK {
					opened++
					w.reopened(s, 0, false)
					continue
				}
				for j := range w.rigs {
					w.rigs[j] = newRig(t, 1<<28)
				}
				if e := func() api.Errno { w.s, e = stripe.Format(unit, w.volumes()...); return e }(); e != api.OK {
					w.fail("Format: %v", e)
				}
				w.now, w.moments, w.sure, w.half = shelf{}, []shelf{{}}, 0, false
			default:
				w.act()
			}
		}
	}
	t.Log(opened)
}
