package reel_test

import (
	"fmt"
	"math/rand"
	"slices"
	"strings"
	"testing"

	"sluice/api"
	"sluice/platter"
	"sluice/reel"
	"sluice/stripe"
)

// fetch tells a small file's text.
func fetch(v api.Volume, name string) (string, api.Errno) {
	b := make([]byte, 200)
	n, err := reel.Fetch(v, name, b)
	return string(b[:n]), err
}

func TestPublish(t *testing.T) {
	d, _ := platter.New(100)
	v := &tape{Volume: d}
	steps := "[Remove m.new Create m.new Append m.new %d Sync m.new SyncDir Rename m.new m SyncDir]"
	for _, data := range []string{"abc", "", "defgh"} {
		if err := reel.Publish(v, "m", []byte(data)); err != api.OK {
			t.Errorf("%q: %v", data, err)
		}
		if got, want := v.told(), fmt.Sprintf(steps, len(data)); got != want {
			t.Errorf("%q: calls %s, not %s", data, got, want)
		}
		d.Restart(0)
		if got, err := fetch(d, "m"); got != data || err != api.OK {
			t.Errorf("%q is fetched as %q, %v", data, got, err)
		}
		if names, _ := d.List(); len(names) != 1 || names[0] != "m" {
			t.Errorf("there are %v", names)
		}
	}
	if d.Ops() == 0 || reel.Publish(nil, "m", nil) != api.ErrNil || reel.Publish(nilDisk(), "m", nil) != api.ErrNil {
		t.Error("a volume that is not there")
	}
	if reel.Publish(v, "m", nil) != api.OK {
		t.Error("nil is as good as nothing")
	}
}

func TestSevenOperations(t *testing.T) {
	d, _ := platter.New(100)
	if err := reel.Publish(d, "m", []byte("abc")); err != api.OK || d.Ops() != 7 {
		t.Errorf("%v, %d operations", err, d.Ops())
	}
}

// What a Publish that was broken off has left is removed.
func TestPublishOverALeftFile(t *testing.T) {
	d := disk(t)
	d.Create("m.new")
	d.Append("m.new", []byte("left"))
	if err := reel.Publish(d, "m", []byte("abc")); err != api.OK {
		t.Errorf("Publish: %v", err)
	}
	if got, err := fetch(d, "m"); got != "abc" || err != api.OK {
		t.Errorf("%q %v", got, err)
	}
}

func TestNamesOfPublish(t *testing.T) {
	rows := []struct {
		name string
		want api.Errno
		ops  int64
	}{
		{strings.Repeat("n", 44), api.OK, 7},
		{strings.Repeat("n", 45), api.ErrVolName, 1},
		{"A", api.ErrVolName, 1},
		{"", api.ErrVolName, 6}, // ".new" is a name
	}
	for _, r := range rows {
		d := disk(t)
		if err := reel.Publish(d, r.name, []byte("x")); err != r.want || d.Ops() != r.ops {
			t.Errorf("%q: %v, %d operations", r.name, err, d.Ops())
		}
	}
	d, _ := platter.New(5)
	if err := reel.Publish(d, "m", []byte("abcdef")); err != api.ErrQuota || d.Ops() != 3 {
		t.Errorf("no room: %v", err)
	}
	if reel.Publish(d, "m", []byte("abc")) != api.OK {
		t.Error("what was left takes the room")
	}
}

// Every operation is struck by every fault: its error is the answer, and nothing comes behind it.
func TestFaultsOfPublish(t *testing.T) {
	fits := map[int][]int64{api.FaultWrite: {3}, api.FaultTorn: {3}, api.FaultSync: {4, 5, 7}, api.FaultOff: {1, 2, 3, 4, 5, 6, 7}, api.FaultDown: {1, 2, 3, 4, 5, 6, 7}}
	for kind, ops := range fits {
		for op := int64(1); op <= 8; op++ {
			d := disk(t, api.Fault{Op: op, Kind: kind, N: 2})
			err := reel.Publish(d, "m", []byte("abc"))
			want, n := api.OK, int64(7)
			if slices.Contains(ops, op) {
				want, n = api.ErrIO, op
				if kind == api.FaultOff {
					want = api.ErrOff
				}
			}
			if err != want || d.Ops() != n {
				t.Errorf("kind %d at %d: %v, %d operations", kind, op, err, d.Ops())
			}
		}
	}
}

// refuser answers an error of its own to Remove.
type refuser struct {
	api.Volume
	code api.Errno
}

func (r refuser) Remove(name string) api.Errno { return r.code }

func TestRemoveIsRefused(t *testing.T) {
	for _, code := range []api.Errno{api.ErrIO, api.ErrTaken, api.ErrQuota, 999} {
		d := disk(t)
		if err := reel.Publish(refuser{d, code}, "m", nil); err != code || d.Ops() != 0 {
			t.Errorf("%v: %v", code, err)
		}
	}
	// Only Remove's ErrNoFile is passed over.
	d := disk(t)
	if err := reel.Publish(gone{d}, "m", nil); err != api.ErrNoFile || d.Ops() != 5 {
		t.Errorf("a file that is gone: %v, %d operations", err, d.Ops())
	}
}

// gone is a volume on which nothing can be renamed, since it is not there.
type gone struct{ api.Volume }

func (gone) Rename(from, to string) api.Errno { return api.ErrNoFile }

func TestFetch(t *testing.T) {
	d := lie(t, "m", []byte("hello"))
	d.Create("e")
	v := &tape{Volume: d}
	rows := []struct {
		name string
		room int
		want string
		n    int
		err  api.Errno
		ops  string
	}{
		{"m", 5, "hello", 5, api.OK, "[Size m ReadAt m 0 5]"},
		{"m", 8, "hello...", 5, api.OK, "[Size m ReadAt m 0 5]"},
		{"m", 4, "....", 0, api.ErrRoom, "[Size m]"},
		{"m", 0, "", 0, api.ErrRoom, "[Size m]"},
		{"e", 0, "", 0, api.OK, "[Size e]"},
		{"e", 2, "..", 0, api.OK, "[Size e]"},
		{"n", 2, "..", 0, api.ErrNoFile, "[Size n]"},
		{"N", 2, "..", 0, api.ErrVolName, "[Size N]"},
	}
	for _, r := range rows {
		whole := []byte(strings.Repeat(".", r.room+4))
		n, err := reel.Fetch(v, r.name, whole[:r.room])
		if n != r.n || err != r.err || string(whole) != r.want+"...." {
			t.Errorf("%s into %d bytes: %d %v, %q", r.name, r.room, n, err, whole)
		}
		if got := v.told(); got != r.ops {
			t.Errorf("%s into %d bytes: calls %s, not %s", r.name, r.room, got, r.ops)
		}
	}
	if v.loose {
		t.Error("a read may fill more than it is asked for")
	}
	if n, err := reel.Fetch(v, "e", nil); n != 0 || err != api.OK {
		t.Errorf("into nil: %d %v", n, err)
	}
	if n, err := reel.Fetch(nil, "m", nil); n != 0 || err != api.ErrNil {
		t.Errorf("no volume: %d %v", n, err)
	}
	if n, err := reel.Fetch(nilDisk(), "m", nil); n != 0 || err != api.ErrNil {
		t.Errorf("a disk that is not there: %d %v", n, err)
	}
}

func TestFetchReadsOn(t *testing.T) {
	whole := lie(t, "m", []byte("hello"))
	for most := 1; most <= 6; most++ {
		if got, err := fetch(crumbs{whole, most}, "m"); got != "hello" || err != api.OK {
			t.Errorf("%d bytes at once: %q %v", most, got, err)
		}
	}
	v := &tape{Volume: crumbs{whole, 2}}
	fetch(v, "m")
	if got, want := v.told(), "[Size m ReadAt m 0 5 ReadAt m 2 3 ReadAt m 4 1]"; got != want {
		t.Errorf("calls %s, not %s", got, want)
	}
	faults := []struct {
		kind int
		want api.Errno
	}{{api.FaultRead, api.ErrIO}, {api.FaultShort, api.ErrIO}, {api.FaultOff, api.ErrOff}, {api.FaultDown, api.ErrIO}}
	for _, f := range faults {
		for op := int64(1); op <= 2; op++ {
			if op == 1 && f.kind <= api.FaultShort {
				continue
			}
			d := whole.Copy()
			d.Plan(api.Fault{Op: d.Ops() + op, Kind: f.kind})
			b := []byte("........")
			if n, err := reel.Fetch(d, "m", b); n != 0 || err != f.want || string(b[5:]) != "..." {
				t.Errorf("kind %d at %d: %d %v %q", f.kind, op, n, err, b)
			}
		}
	}
}

// powers tells every way in which a disk may come again: each state of the directory, with few or many bytes of what was not synced.
func powers(d *platter.Disk, try func(d *platter.Disk, how string)) {
	for dir := range 6 {
		for _, keep := range []int64{0, 1, 2, 100} {
			c := d.Copy()
			c.Restart(dir, keep, keep, keep)
			try(c, fmt.Sprintf("state %d and %d bytes more", dir, keep))
		}
	}
}

// The power goes at every operation of the second Publish, and behind it; then a third one is made.
func TestPowerAmidPublish(t *testing.T) {
	for op := int64(1); op <= 8; op++ {
		d := disk(t)
		if reel.Publish(d, "m", []byte("one")) != api.OK {
			t.Fatal("Publish")
		}
		d.Plan(api.Fault{Op: d.Ops() + op, Kind: api.FaultOff})
		err := reel.Publish(d, "m", []byte("second"))
		if (err == api.OK) != (op == 8) {
			t.Errorf("power goes at %d: %v", op, err)
		}
		d.List() // the eighth operation
		powers(d, func(d *platter.Disk, how string) {
			got, err := fetch(d, "m")
			if err != api.OK || got != "second" && (got != "one" || op == 8) {
				t.Fatalf("power goes at %d, %s: %q %v", op, how, got, err)
			}
			if err := reel.Publish(d, "m", []byte("the third")); err != api.OK {
				t.Fatalf("power goes at %d, %s: a third Publish: %v", op, how, err)
			}
			powers(d, func(d *platter.Disk, again string) {
				if got, err := fetch(d, "m"); got != "the third" || err != api.OK {
					t.Fatalf("power goes at %d, %s, then %s: %q %v", op, how, again, got, err)
				}
			})
		})
	}
}

// Ahead of the first OK there may be none.
func TestPowerAmidTheFirst(t *testing.T) {
	for op := int64(1); op <= 7; op++ {
		d := disk(t, api.Fault{Op: op, Kind: api.FaultOff})
		reel.Publish(d, "m", []byte("one"))
		powers(d, func(d *platter.Disk, how string) {
			if got, err := fetch(d, "m"); err != api.ErrNoFile && (got != "one" || err != api.OK) {
				t.Errorf("power goes at %d, %s: %q %v", op, how, got, err)
			}
		})
	}
}

// struck plans a fault of those that turn no bits.
func struck(r *rand.Rand, d *platter.Disk) {
	kinds := []int{api.FaultRead, api.FaultShort, api.FaultWrite, api.FaultTorn, api.FaultSync, api.FaultOff, api.FaultDown}
	d.Plan(api.Fault{Op: d.Ops() + 1 + r.Int63n(20), Kind: kinds[r.Intn(len(kinds))], N: r.Int63n(8)})
}

// Long histories of Publishes with faults and power that goes: what a Fetch tells is the last that was answered OK, or one begun since.
func TestPublishedWhole(t *testing.T) {
	r := rand.New(rand.NewSource(19))
	for range 4000 {
		d := disk(t)
		may := map[string]bool{}
		first := false
		for step := range 25 {
			switch r.Intn(8) {
			case 0, 1:
				struck(r, d)
			case 2:
				d.Restart(r.Intn(6), r.Int63n(5), r.Int63n(5), r.Int63n(5))
				d.Mend()
			case 3, 4:
				got, err := fetch(d, "m")
				if err == api.OK && !may[got] || err == api.ErrNoFile && first || err == api.ErrRoom {
					t.Fatalf("%q %v, and there may be %v", got, err, may)
				}
			default:
				data := fmt.Sprint(step, strings.Repeat("x", r.Intn(9)))
				may[data] = true
				if reel.Publish(d, "m", []byte(data)) == api.OK {
					may, first = map[string]bool{data: true}, true
				}
			}
		}
		d.Plan(api.Fault{Op: d.Ops() + 1, Kind: api.FaultOff})
		d.Mend()
		d.List()
		powers(d, func(d *platter.Disk, how string) {
			for range 25 { // the faults that are left strike past the file
				d.List()
				d.Restart(6)
				d.Mend()
			}
			got, err := fetch(d, "m")
			if err == api.OK && !may[got] || err != api.OK && first {
				t.Fatalf("%s: %q %v, and there may be %v", how, got, err, may)
			}
		})
	}
}

func TestPublishOnAStripe(t *testing.T) {
	for op := int64(1); op <= 30; op++ {
		a, b, c := disk(t), disk(t), disk(t)
		s, _ := stripe.Format(16, a, b, c)
		if err := reel.Publish(s, "m", []byte("the first one")); err != api.OK {
			t.Fatalf("Publish: %v", err)
		}
		for _, d := range []*platter.Disk{a, b, c} {
			d.Plan(api.Fault{Op: d.Ops() + op, Kind: api.FaultOff})
		}
		err := reel.Publish(s, "m", []byte("another"))
		for i, d := range []*platter.Disk{a, b, c} {
			for range op { // the power goes behind it at the latest
				d.List()
			}
			d.Restart(i, int64(i))
		}
		s, opened := stripe.Open(a, b, c)
		if opened != api.OK {
			t.Fatalf("power goes at %d: Open: %v", op, opened)
		}
		got, fetched := fetch(s, "m")
		if fetched != api.OK || got != "another" && (got != "the first one" || err == api.OK) {
			t.Errorf("power goes at %d: %v, %q %v", op, err, got, fetched)
		}
	}
}
