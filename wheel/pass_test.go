package wheel_test

import (
	"fmt"
	"math/rand/v2"
	"testing"

	"sluice/api"
	"sluice/platter"
	"sluice/wheel"
)

// watch is a volume that looks at the places of what is read of a graph's files.
type watch struct {
	api.Volume
	t      *testing.T
	at     map[string]int64 // where the last read of a file ended
	passes map[string]int   // how often it was begun
}

func (w *watch) ReadAt(name string, at int64, into []byte) (int, api.Errno) {
	n, e := w.Volume.ReadAt(name, at, into)
	if e == api.OK && name[0] == 'g' && name[1] == '-' {
		switch {
		case at == 0:
			w.passes[name]++
		case at != w.at[name]:
			w.t.Errorf("P12.14: %s is read at %d behind %d", name, at, w.at[name])
		}
		w.at[name] = at + int64(n)
	}
	return n, e
}

// P12.14: each edge file and each back file is read front to back at most once for Start and once a round; of a Resume once for each of its rounds. Short reads don't change that.
func TestOnePassARound(t *testing.T) {
	for seed := range uint64(120) {
		rnd := rand.New(rand.NewPCG(seed, 14))
		w := anyWorld(rnd, 40)
		d, g := planted(t, w)
		for range rnd.IntN(20) {
			d.Plan(api.Fault{Op: d.Ops() + rnd.Int64N(500), Kind: api.FaultShort, N: 1 + rnd.Int64N(30)})
		}
		sizes := map[string]int64{}
		for _, s := range d.Stats() {
			sizes[s.Name] = s.Size
		}
		made := 0
		w.o.Every, w.o.Cap = 1, 1+rnd.IntN(3)
		for first := true; ; first = false {
			d.Clear()
			v := &watch{d, t, map[string]int64{}, map[string]int{}}
			var s api.Stats
			var e api.Errno
			if first {
				s, e = wheel.Run(v, bag(t, 1<<16), g, w.prog, 1, w.o)
			} else {
				s, e = wheel.Resume(v, bag(t, 1<<16), g, w.prog, 1, w.o)
			}
			if e != api.OK && e != api.ErrCap {
				t.Fatal(e)
			}
			rounds := w.o.Cap
			if e == api.OK {
				rounds = s.Rounds
			}
			passes := rounds - made
			if first {
				passes++
			}
			read(t, d, v, sizes, passes, fmt.Sprintf("world %d", seed))
			if e == api.OK {
				break
			}
			made = rounds
			w.o.Cap += 1 + rnd.IntN(3)
		}
	}
}

// read holds a volume's own counts against the passes that may be made.
func read(t *testing.T, d *platter.Disk, v *watch, sizes map[string]int64, passes int, what string) {
	t.Helper()
	for _, s := range d.Stats() {
		if s.Name[:2] != "g-" {
			continue
		}
		if s.ReadBytes > sizes[s.Name]*int64(passes) || v.passes[s.Name] > passes || s.WroteBytes != 0 || s.Seeks > int64(passes) {
			t.Fatalf("P12.14: %s: %s: %d bytes read in %d passes, %d may be made: %v", what, s.Name, s.ReadBytes, v.passes[s.Name], passes, s)
		}
		if s.Name[:4] == "g-e-" && v.passes[s.Name] != passes {
			t.Fatalf("0.3: %s: %s was gone over %d times in %d", what, s.Name, v.passes[s.Name], passes)
		}
	}
}
