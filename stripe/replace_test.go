package stripe_test

import (
	"slices"
	"strings"
	"testing"

	"sluice/api"
	"sluice/stripe"
)

// laden gives a stripe of n members with some files, some of it durable, and perhaps a member out.
func laden(t *testing.T, n, out int) *world {
	t.Helper()
	w := newWorld(t, dice(77), n, 16)
	w.create("a")
	w.append("a", w.some(100))
	w.sync("a")
	w.create("b")
	w.append("b", w.some(7))
	w.create("c")
	w.syncDir()
	w.append("a", w.some(33))
	if out >= 0 {
		w.rigs[out].wait, w.rigs[out].fault = 0, api.Fault{Kind: api.FaultDown}
		w.append("b", w.some(40))
		w.sync("b")
	}
	w.append("b", w.some(3))
	w.create("d")
	w.append("d", w.some(5))
	return w
}

// copied gives a world with copies of the disks.
func (w *world) copied(put ...*rig) []api.Volume {
	var l []api.Volume
	for _, r := range append(w.rigs[:len(w.rigs):len(w.rigs)], put...) {
		l = append(l, r.Disk.Copy())
	}
	return l
}

// v fails in any way, at any of its operations: that is the answer, all is as it was, and v is out if it is handed to Open (P5.8).
func TestReplaceFails(t *testing.T) {
	for _, out := range []int{-1, 1} {
		for _, kind := range []int{api.FaultWrite, api.FaultTorn, api.FaultSync, api.FaultOff, api.FaultDown} {
			struck := 0
			for k := 0; ; k++ {
				w := laden(t, 3, out)
				v := newRig(t, 1<<20)
				v.wait, v.fault = k, api.Fault{Kind: kind, N: 5}
				e := w.s.Replace(1, v)
				if v.wait >= 0 {
					break
				}
				if e == api.OK {
					continue // the fault did not fit
				}
				struck++
				want := api.ErrIO
				if kind == api.FaultOff {
					want = api.ErrOff
				}
				if e != want || w.s.Out() != out {
					t.Fatalf("kind %d at %d: %v, out %d", kind, k, e, w.s.Out())
				}
				w.readAll()
				v.Disk.Mend()
				for mode := range 2 {
					one := &rig{Disk: v.Disk.Copy(), wait: -1}
					w.keep(one, mode)
					l := w.copied(one)
					s, e := stripe.Open(l[0], l[3], l[2])
					if e != api.OK || s.Out() != 1 {
						t.Fatalf("kind %d at %d: Open with the new one: %v, out %d", kind, k, e, s.Out())
					}
				}
				w.append("a", w.some(3))
				w.sync("a")
				w.syncDir()
				s, e := stripe.Open(w.copied()...)
				if e != api.OK {
					t.Fatalf("kind %d at %d: Open with the old one: %v", kind, k, e)
				}
				w.reopened(s, w.sure, true)
			}
			if struck == 0 {
				t.Fatalf("kind %d never struck", kind)
			}
		}
	}
}

// keep lets the power of a disk go and come: it keeps nothing, all, or what it likes.
func (w *world) keep(r *rig, mode int) {
	switch mode {
	case 0:
		r.Disk.Restart(0)
	case 1:
		r.Disk.Restart(1<<20, slices.Repeat([]int64{1 << 20}, 20)...)
	default:
		w.restart(r)
	}
}

// The power of all goes at any operation of a Replace: the old member is in its place as before; v is out (but where the only thing that is missing is the answer).
func TestReplaceBrokenOff(t *testing.T) {
	for _, out := range []int{-1, 1} {
		for n := 3; n < 6; n++ {
			for mode := range 3 {
				in := 0
				for k := 0; ; k++ {
					w := laden(t, n, out)
					w.strict = false
					v := newRig(t, 1<<20)
					all := &count{at: k}
					rigs := append(w.rigs[:n:n], v)
					for _, r := range rigs {
						r.hook = all
					}
					e := w.s.Replace(1, v)
					if e == api.OK {
						break
					}
					if e != api.ErrOff {
						t.Fatalf("%d of %d at %d: %v", mode, n, k, e)
					}
					for _, r := range rigs {
						r.hook = nil
						w.keep(r, mode)
						r.Disk.Mend()
					}
					l := w.copied(v)
					l[1], l = l[n], l[:n]
					s, e := stripe.Open(l...)
					if e != api.OK {
						t.Fatalf("%d of %d at %d: Open with the new one: %v", mode, n, k, e)
					}
					if s.Out() != 1 {
						in++
					}
					s, e = stripe.Open(w.volumes()...)
					if e != api.OK {
						t.Fatalf("%d of %d at %d: Open with the old one: %v", mode, n, k, e)
					}
					w.strict = true
					w.reopened(s, w.sure, true)
				}
				if in > 1 || in > 0 && mode == 0 {
					t.Errorf("%d of %d: v is in %d times", mode, n, in)
				}
			}
		}
	}
}

// The power of one of the others goes, or it fails, at any operation of a Replace.
func TestReplaceWhileAnotherFails(t *testing.T) {
	for _, kind := range []int{api.FaultOff, api.FaultDown, api.FaultWrite, api.FaultSync, api.FaultRead} {
		for _, out := range []int{-1, 1} {
			for k := 0; ; k++ {
				w := laden(t, 3, out)
				w.strict = false
				v := newRig(t, 1<<20)
				r := w.rigs[2]
				r.wait, r.fault = k, api.Fault{Kind: kind}
				e := w.s.Replace(1, v)
				if r.wait >= 0 {
					break
				}
				if e == api.OK {
					w.rigs[1] = v
				} else if e != api.ErrTwo && e != api.ErrOff {
					t.Fatalf("kind %d at %d: %v", kind, k, e)
				}
				if out < 0 {
					w.strict = true // it is the only one that is bad
					w.life2()
				} else {
					r.Disk.Mend()
					w.readAll()
				}
				if e != api.OK && out >= 0 {
					w.rigs[1].Disk.Mend()
				}
				r.Disk.Mend()
				for _, r := range w.rigs {
					w.keep(r, k%3)
				}
				s, e := stripe.Open(w.volumes()...)
				if e != api.OK {
					w.fail("kind %d at %d: Open: %v", kind, k, e)
				}
				w.strict = true
				w.reopened(s, w.sure, true)
			}
		}
	}
}

// replaced gives a laden world behind a Replace of member 1, and copies of the old disks.
func replaced(t *testing.T, n int) (w, old *world) {
	t.Helper()
	w = laden(t, n, -1)
	w.syncDir()
	old = w.twin()
	v := newRig(t, 1<<20)
	if e := w.s.Replace(1, v); e != api.OK {
		w.fail("Replace: %v", e)
	}
	w.rigs[1] = v
	for _, f := range w.now {
		f.synced = len(f.data)
	}
	return w, old
}

// newestLog names the newest log of a disk.
func newestLog(r *rig) string {
	newest := ""
	for _, f := range r.Stats() {
		if strings.HasPrefix(f.Name, "log-") {
			newest = f.Name
		}
	}
	return newest
}

// Behind a Replace one of the others has lost its newest log, or tells what it was before; Opens are broken off. The new one stays in its place (P5.12).
func TestReplaceThenOneIsBad(t *testing.T) {
	for n := 3; n < 5; n++ {
		for _, further := range []bool{false, true} {
			state, old := replaced(t, n)
			if further {
				state.append("a", state.some(50))
				state.sync("a")
				state.create("new")
				state.syncDir()
			}
			for bad := range n {
				if bad == 1 {
					continue
				}
				for k := 0; ; k++ {
					w := state.twin()
					w.rigs[bad].Flip(newestLog(w.rigs[bad]), int64(k)%800)
					made := w.breakAt(k)
					w.open(bad, true)
					if made <= k {
						break
					}
				}
				w := state.twin()
				w.rigs[bad] = old.twin().rigs[bad]
				s, e := stripe.Open(w.volumes()...)
				if e != api.OK || further && s.Out() != -1 && s.Out() != bad {
					w.fail("one that tells what it was: %v", e)
				}
				w.reopened(s, w.sure, true)
			}
		}
	}
}

// Behind Replaces the power of one member goes in the midst of an Open: when all have it again all is there, and nobody is out.
func TestReplaceThenPower(t *testing.T) {
	for n := 3; n < 5; n++ {
		for _, twice := range []bool{false, true} {
			state, _ := replaced(t, n)
			if twice {
				v := newRig(t, 1<<20)
				if e := state.s.Replace(2, v); e != api.OK {
					t.Fatal(e)
				}
				state.rigs[2] = v
			}
			state.append("b", state.some(20))
			for dark := range n {
				for m := range n {
					for k := 0; ; k++ {
						w := state.twin()
						w.strict = false
						r := w.rigs[m]
						struck := false
						r.wait, r.blink = k, func() { struck = true; off(r.Disk) }
						if dark != m {
							off(w.rigs[dark].Disk)
						}
						w.open(-1, false)
						if !struck {
							break
						}
						for i, r := range w.rigs {
							r.wait, r.blink = -1, nil
							w.keep(r, (i+k)%3)
						}
						w.open(-1, true)
					}
				}
			}
		}
	}
}

// The new volume's power goes and comes while it is filled, unseen: if that is answered OK, each other one may be bad. (But what it answers OK at its very last operation, and does not hold afterwards, is a fault of the spell that begins then.)
func TestReplaceByOneThatBlinks(t *testing.T) {
	w, v := laden(t, 3, -1), newRig(t, 1<<20)
	if e := w.s.Replace(1, v); e != api.OK {
		t.Fatal(e)
	}
	last := int(v.Ops()) - 1
	for k := range last + 1 {
		w, v := laden(t, 3, -1), newRig(t, 1<<20)
		v.wait, v.blink = k, func() { w.keep(v, k%3) }
		if w.s.Replace(1, v) != api.OK {
			continue
		}
		w.rigs[1] = v
		for bad := range 3 {
			if k == last && bad != 1 {
				continue
			}
			one := w.twin()
			one.rigs[bad] = newRig(t, 1<<20)
			s, e := stripe.Open(one.volumes()...)
			if e != api.OK {
				one.fail("at %d: %v", k, e)
			}
			one.reopened(s, one.sure, true)
		}
	}
}

// A Replace fails since another member's power goes, at any operation; the stripe goes on without that one. With it, and without one that went on, nothing is told, or all.
func TestReplaceGivenUp(t *testing.T) {
	for n := 3; n < 5; n++ {
		for k := 0; ; k++ {
			w := laden(t, n, -1)
			r := w.rigs[0]
			r.wait, r.fault = k, api.Fault{Kind: api.FaultOff}
			e := w.s.Replace(1, newRig(t, 1<<20))
			if r.wait >= 0 {
				break
			}
			if e == api.OK {
				continue
			}
			w.create("new")
			w.append("new", w.some(50))
			w.life2()
			for i, r := range w.rigs {
				w.keep(r, (i+k)%3)
			}
			for other := range n {
				one := w.twin()
				one.strict = false
				one.rigs[other].wait, one.rigs[other].fault = 0, api.Fault{Kind: api.FaultOff}
				one.open(other, other == 0)
			}
			w.open(-1, true)
			w.life2()
		}
	}
}

// However often members are replaced, those that stay do not fill up with what that has left (P5.10).
func TestReplaceOftenLeavesNothing(t *testing.T) {
	s, l := formatted(t, 3, 16)
	for i := range 2 * 70 {
		d := disks(t, 1)[0]
		is(t, "Replace", s.Replace(i%2, d), api.OK)
		l[i%2] = d
		for m, d := range l {
			if _, files := d.Used(); files > 1+64 {
				t.Fatalf("member %d has %d files behind %d Replaces", m, files, i+1)
			}
		}
	}
	is(t, "SyncDir", s.SyncDir(), api.OK)
	tells(t, opened(t, -1, l...), rising(40))
}
