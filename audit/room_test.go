package audit_test

import (
	"math/rand/v2"
	"runtime"
	"slices"
	"testing"

	"sluice/api"
)

// P18.1: the room may hold anything ahead of a call, and is enough when it is just as long as is said; places behind those that are asked for stay as they were, and so do the states, spare room included.
func TestRoom(t *testing.T) {
	for i, f := range faces {
		rnd := rand.New(rand.NewPCG(uint64(i), 189))
		for range 150 {
			k := anyKernel(rnd, f.name, 12)
			const spare = 3
			held := append(shaken(rnd, k, k.result(t)), make([]api.State, spare)...)
			states := held[:k.n]
			was := slices.Clone(held)
			want := k.verdict(t, states)
			for _, more := range []int{0, 1, spare, k.asked()} {
				zero := room{make([]uint64, k.asked()+more), make([]api.State, k.asked()+more)}
				any := roomFor(k.asked() + more)
				for _, r := range []room{zero, any, any} { // the last one holds what the call before it has left
					before := r.clone()
					tape := &tape{edges: k.edges}
					v, e := k.call(tape.all(), states, r)
					if e != api.OK || v != want {
						t.Fatalf("P18.1: %+v of %d, %d places more: %+v, %d, want %+v", k, states, more, v, e, want)
					}
					if !r.equalFrom(k.asked(), before) {
						t.Fatalf("P18.1: %+v of %d, %d places more: some of them have changed", k, states, more)
					}
					if !slices.Equal(held, was) {
						t.Fatalf("P18.1: %+v: the states have changed", k)
					}
				}
			}
		}
	}
}

// P18.1: and so it is where a wrong edge is told.
func TestRoomBehindAnError(t *testing.T) {
	for _, f := range faces {
		a := ready(t, f.name)
		a.room = roomFor(a.asked() + 5)
		before := a.room.clone()
		a.tape.errs = map[int]api.Errno{3: errEdge}
		a.refuse(t, "an error", errEdge)
		if !a.room.equalFrom(a.asked(), before) {
			t.Errorf("P18.1: %s: places behind the room have changed", f.name)
		}
	}
}

// A room is not looked at beyond its length, though its slice has more behind.
func TestRoomGoesByItsLength(t *testing.T) {
	for _, f := range faces {
		a := ready(t, f.name)
		a.room = roomFor(a.asked() + 5).first(a.asked() - 1)
		a.refuse(t, "room that is short, with more behind", api.ErrTight)
		a = ready(t, f.name)
		a.states = append(a.states, api.State{})[:3]
		a.refuse(t, "states that are short, with more behind", api.ErrSizes)
	}
}

// The same call tells the same again, from edges that were gone over before.
func TestAgain(t *testing.T) {
	for i, f := range faces {
		rnd := rand.New(rand.NewPCG(uint64(i), 190))
		k := anyKernel(rnd, f.name, 9)
		states := k.result(t)
		r := roomFor(k.asked())
		edges := (&tape{edges: k.edges}).all()
		for range 3 {
			v, e := k.call(edges, states, r)
			told(t, f.name, v, e, right)
		}
	}
}

// No more memory is used than the room, and some words: far fewer than one a vertex.
func TestMemory(t *testing.T) {
	const n = 1 << 14
	var star []api.Edge
	for v := uint32(1); v < n; v++ {
		star = append(star, between(0, v)...)
	}
	for _, f := range faces {
		k := kernelOf(f.name, n, star...)
		states, r := make([]api.State, n), roomFor(k.asked())
		edges := (&tape{edges: star}).all()
		var before, behind runtime.MemStats
		runtime.ReadMemStats(&before)
		_, e := k.call(edges, states, r)
		runtime.ReadMemStats(&behind)
		if grown := behind.TotalAlloc - before.TotalAlloc; e != api.OK || grown > n {
			t.Errorf("%s: %d bytes for %d vertices, %d", f.name, grown, n, e)
		}
	}
}
