package platter_test

import (
	"fmt"
	"math"
	"slices"
	"strings"
	"testing"

	"sluice/api"
	"sluice/platter"
)

func TestOps(t *testing.T) {
	d := fresh(t, 9)
	for i, op := range operations {
		op.call(d)
		if d.Ops() != int64(i+1) {
			t.Errorf("behind %s: %d", op.name, d.Ops())
		}
	}
	d.Restart(0)
	d.Mend()
	d.Stats()
	d.Clear()
	d.Flip("a", 0)
	d.Copy()
	d.Used()
	d.Lit()
	d.Plan()
	if d.Ops() != 9 {
		t.Errorf("what is no operation counts: %d", d.Ops())
	}
}

func TestRestartCutsFiles(t *testing.T) {
	for _, c := range []struct {
		keep []int64
		want string
	}{
		{nil, "a=he b= c=xyz"}, {[]int64{}, "a=he b= c=xyz"}, {[]int64{1}, "a=hel b= c=xyz"}, {[]int64{3, 2, 1}, "a=hello b=wo c=xyz"},
		{[]int64{-1, 4}, "a=he b=worl c=xyz"}, {[]int64{4, 6, 0, 9, 9}, "a=hello b=world c=xyz"},
		{[]int64{math.MinInt64, math.MaxInt64, math.MaxInt64}, "a=he b=world c=xyz"}, {[]int64{math.MaxInt64, math.MinInt64}, "a=hello b= c=xyz"},
	} {
		d := fresh(t, 99)
		put(t, d, "c", "xyz")
		put(t, d, "b", "world")
		put(t, d, "a", "he")
		d.Sync("c")
		d.Sync("a")
		d.Append("a", []byte("llo"))
		d.SyncDir()
		is(t, "Restart", d.Restart(0, c.keep...), api.OK)
		want := strings.Fields(c.want)
		var bytes int64
		for i, s := range d.Stats() {
			size := int64(len(want[i]) - 2)
			bytes += size
			if s.Size != size || s.Synced != size {
				t.Errorf("keep %v: %v", c.keep, s)
			}
		}
		if n, f := d.Used(); n != bytes || f != 3 {
			t.Errorf("keep %v: Used %d %d", c.keep, n, f)
		}
		holds(t, d, want...)
		d.Append("b", []byte("!"))
		d.Restart(0)
		holds(t, d, want...) // all that stayed is synced
	}
}

// Files are counted by name, in the directory that holds then.
func TestRestartCountsFilesOfItsState(t *testing.T) {
	d := fresh(t, 99)
	put(t, d, "b", "bbb")
	put(t, d, "d", "ddd")
	d.SyncDir()
	put(t, d, "a", "aaa")
	put(t, d, "c", "ccc")
	d.Remove("b")
	for dir, want := range map[int][]string{
		0: {"b=b", "d=dd"}, -1: {"b=b", "d=dd"}, math.MinInt: {"b=b", "d=dd"}, 1: {"a=a", "b=bb", "d=ddd"}, 2: {"a=a", "b=bb", "c=ccc", "d="}, 3: {"a=a", "c=cc", "d=ddd"}, 4: {"a=a", "c=cc", "d=ddd"}, math.MaxInt: {"a=a", "c=cc", "d=ddd"},
	} {
		c := d.Copy()
		is(t, "Restart", c.Restart(dir, 1, 2, 3), api.OK)
		holds(t, c, want...)
		c.Restart(dir, 9, 9, 9, 9) // there are no changes any more
		holds(t, c, want...)
	}
}

func TestRestartKeepsPlanAndCounts(t *testing.T) {
	d := fresh(t, 99, api.Fault{Op: 8, Kind: api.FaultTorn, N: 1})
	put(t, d, "a", "hello")
	d.Sync("a")
	d.SyncDir()
	d.ReadAt("a", 1, make([]byte, 2))
	want := stat(t, d, "a")
	d.Restart(0)
	if got := stat(t, d, "a"); got != want || got.Seeks != 1 || d.Ops() != 5 {
		t.Errorf("behind a Restart: %v", got)
	}
	d.ReadAt("a", 3, make([]byte, 2))
	if s := stat(t, d, "a"); s.Seeks != 1 || s.Reads != 2 || s.ReadBytes != 4 {
		t.Errorf("where the last read had ended is lost: %v", s)
	}
	d.Sync("a")
	is(t, "the plan", d.Append("a", []byte("xy")), api.ErrIO)
	holds(t, d, "a=hellox")
}

// A file that a Restart brings back has the bytes that it had, and grows apart from what was lost.
func TestRestartBringsBack(t *testing.T) {
	d := fresh(t, 10)
	put(t, d, "a", "hello")
	d.Sync("a")
	d.SyncDir()
	d.Append("a", []byte("12345"))
	d.Rename("a", "b")
	d.Append("b", nil)
	d.Remove("b")
	d.Restart(1, 2)
	holds(t, d, "b=hello12")
	d.Append("b", []byte("!"))
	holds(t, d, "b=hello12!")
}

func TestMendAndLit(t *testing.T) {
	d := fresh(t, 99, api.Fault{Op: 2, Kind: api.FaultDown}, api.Fault{Op: 4, Kind: api.FaultOff})
	lit := func(want bool) {
		t.Helper()
		if d.Lit() != want {
			t.Errorf("behind operation %d: lit %v", d.Ops(), d.Lit())
		}
	}
	d.SyncDir()
	lit(true)
	d.SyncDir()
	lit(false)
	is(t, "down", d.SyncDir(), api.ErrIO)
	is(t, "Mend", d.Mend(), api.OK)
	lit(true)
	d.SyncDir()
	lit(false)
	d.Mend()
	lit(false)
	d.Restart(0)
	lit(true)
}

func TestStats(t *testing.T) {
	d := fresh(t, 99)
	if s := d.Stats(); len(s) != 0 {
		t.Errorf("of none: %v", s)
	}
	put(t, d, "b", "hello")
	put(t, d, "a", "hi")
	d.Append("b", nil)
	d.Append("b", []byte(" you"))
	d.Sync("b")
	d.Append("b", []byte("!"))
	read := func(name string, at int64, n int) { d.ReadAt(name, at, make([]byte, n)) }
	read("b", 0, 4)
	read("b", 4, 0)
	read("b", 4, 99)
	read("b", 11, 1) // outside: it does not count
	read("b", 10, 1)
	read("b", 0, 1)
	read("b", 0, 1)
	read("a", 1, 1)
	read("a", 2, 1)
	want := []api.VolStat{
		{Name: "a", Size: 2, Writes: 1, WroteBytes: 2, Reads: 2, ReadBytes: 1, Seeks: 1},
		{Name: "b", Size: 10, Synced: 9, Writes: 4, WroteBytes: 10, Reads: 6, ReadBytes: 12, Seeks: 2},
	}
	got := d.Stats()
	if !slices.Equal(got, want) {
		t.Errorf("Stats: %v, not %v", got, want)
	}
	got[0] = api.VolStat{}
	_ = append(got[:1], api.VolStat{})
	if !slices.Equal(d.Stats(), want) {
		t.Error("what Stats told is kept")
	}
	d.Create("c")
	d.Rename("b", "c")
	want[1].Name = "c"
	if got := d.Stats(); !slices.Equal(got, want) {
		t.Errorf("the counts don't go with the file: %v", got)
	}
}

func TestClear(t *testing.T) {
	d := fresh(t, 99)
	put(t, d, "a", "hello")
	put(t, d, "gone", "hello")
	d.Sync("a")
	d.SyncDir()
	for _, name := range []string{"a", "gone"} {
		d.ReadAt(name, 1, make([]byte, 3))
	}
	d.Remove("gone")
	is(t, "Clear", d.Clear(), api.OK)
	if got := stat(t, d, "a"); got != (api.VolStat{Name: "a", Size: 5, Synced: 5}) {
		t.Errorf("behind Clear: %v", got)
	}
	d.ReadAt("a", 0, make([]byte, 3))
	if got := stat(t, d, "a"); got.Seeks != 0 || got.Reads != 1 {
		t.Errorf("behind Clear: %v", got)
	}
	d.Restart(0) // what was not in the directory was not cleared
	if got := stat(t, d, "gone"); got != (api.VolStat{Name: "gone", Writes: 1, WroteBytes: 5, Reads: 1, ReadBytes: 3, Seeks: 1}) {
		t.Errorf("a file that was not there: %v", got)
	}
}

func TestFlip(t *testing.T) {
	d := fresh(t, 99, api.Fault{Op: 4, Kind: api.FaultOff})
	put(t, d, "a", "hello")
	for _, bit := range []int64{-1, 40, 41, math.MinInt64, math.MaxInt64} {
		is(t, fmt.Sprint("bit ", bit), d.Flip("a", bit), api.ErrPlace)
	}
	d.Create("empty")
	is(t, "of nothing", d.Flip("empty", 0), api.ErrPlace)
	d.Create("off")
	is(t, "without power", d.Flip("a", 0), api.OK)
	d.Restart(9, 9)
	is(t, "back again", d.Flip("a", 0), api.OK)
	for bit := range int64(40) {
		before := stat(t, d, "a")
		is(t, "Flip", d.Flip("a", bit), api.OK)
		if stat(t, d, "a") != before {
			t.Error("Flip counts")
		}
		if got := whole(t, d, "a"); got != turned("hello", bit) {
			t.Errorf("bit %d: %q", bit, got)
		}
		d.Restart(0)
		d.Flip("a", bit)
	}
	holds(t, d, "a=hello", "empty=")
}

// Behind a Copy both go on as if the other were not there.
func TestCopy(t *testing.T) {
	make1 := func() *platter.Disk {
		d := fresh(t, 30, api.Fault{Op: 10, Kind: api.FaultTorn, N: 1}, api.Fault{Op: 30, Kind: api.FaultDown})
		put(t, d, "a", "hello")
		put(t, d, "b", "world")
		d.Sync("a")
		d.SyncDir()
		d.Rename("a", "c")
		d.Append("c", []byte("12"))
		return d
	}
	for dir := range 3 {
		d, alone := make1(), make1()
		c := d.Copy()
		c.Append("c", []byte("xyz"))
		for bit := range int64(40) {
			c.Flip("c", bit)
		}
		is(t, "Plan", c.Plan(api.Fault{Op: 9, Kind: api.FaultOff}, api.Fault{Op: 10, Kind: api.FaultOff}), api.OK)
		c.Remove("b")
		c.Restart(dir)
		c.Clear()
		c.Create("new")
		for _, x := range []*platter.Disk{d, alone} {
			is(t, "9", x.Append("b", []byte("3456")), api.OK)
			is(t, "10, torn", x.Append("b", []byte("78")), api.ErrIO)
		}
		if got, want := fmt.Sprint(d.Stats(), d.Ops(), d.Lit()), fmt.Sprint(alone.Stats(), alone.Ops(), alone.Lit()); got != want {
			t.Errorf("%s, not %s", got, want)
		}
		second := d.Copy()
		d.Restart(dir, 9, 9)
		d.Flip("b", 0)
		alone.Restart(dir, 9, 9)
		second.Restart(dir, 9, 9)
		if got, want := contents(second), contents(alone); got != want {
			t.Errorf("%s, not %s", got, want)
		}
		for second.Lit() {
			second.SyncDir()
		}
		if second.Ops() != 30 {
			t.Errorf("the plan is not the same: down at %d", second.Ops())
		}
		if !d.Lit() || !alone.Lit() {
			t.Error("a copy's faults strike both")
		}
	}
}

// contents tells all that a lit disk holds.
func contents(d *platter.Disk) string {
	var out strings.Builder
	names, e := d.List()
	fmt.Fprint(&out, e)
	for _, name := range names {
		b := make([]byte, 100)
		n, e := d.ReadAt(name, 0, b)
		fmt.Fprintf(&out, " %s=%q,%v", name, b[:n], e)
	}
	return out.String()
}

func TestCopyOfOffAndDown(t *testing.T) {
	d := fresh(t, 9, api.Fault{Op: 1, Kind: api.FaultDown}, api.Fault{Op: 2, Kind: api.FaultOff})
	d.SyncDir()
	is(t, "down", d.Copy().SyncDir(), api.ErrOff)
	c := d.Copy()
	c.Mend()
	if d.Lit() || !c.Lit() {
		t.Error("Mend of a copy")
	}
	d.SyncDir()
	c = d.Copy()
	is(t, "off", c.SyncDir(), api.ErrOff)
	c.Restart(0)
	is(t, "still down", c.SyncDir(), api.ErrIO)
	is(t, "still off", d.SyncDir(), api.ErrOff)
}

func TestNoDisk(t *testing.T) {
	struck := fresh(t, 9)
	put(t, struck, "a", "hello")
	byValue := *struck
	for what, d := range map[string]*platter.Disk{"nil": nil, "new": new(platter.Disk), "a struct's copy": &byValue} {
		b := []byte("##")
		n, e1 := d.ReadAt("a", 0, b)
		s, e2 := d.Size("a")
		l, e3 := d.List()
		for i, e := range []api.Errno{
			e1, e2, e3, d.Create("a"), d.Append("a", b), d.Sync("a"), d.SyncDir(), d.Rename("a", "b"), d.Remove("a"), d.Plan(), d.Plan(api.Fault{}), d.Restart(0), d.Restart(-1, 1), d.Mend(), d.Clear(), d.Flip("a", 0), d.Flip("", -1),
		} {
			is(t, fmt.Sprint(what, " call ", i), e, api.ErrNil)
		}
		bytes, files := d.Used()
		if n != 0 || s != 0 || l != nil || string(b) != "##" || bytes != 0 || files != 0 || d.Ops() != 0 || d.Lit() || d.Stats() != nil || d.Copy() != nil {
			t.Errorf("%s: an answer that is not zero", what)
		}
	}
	if struck.Ops() != 2 {
		t.Error("a struct's copy went through")
	}
	holds(t, struck, "a=hello")
}

func TestExamples(t *testing.T) {
	d := fresh(t, 100)
	put(t, d, "a", "hello")
	if n, e := d.Size("a"); n != 5 || e != api.OK {
		t.Errorf("1: %d %v", n, e)
	}
	d.Restart(0)
	holds(t, d)
	d.Create("a")
	d.SyncDir()
	d.Append("a", []byte("hello"))
	d.Restart(0, 3)
	holds(t, d, "a=hel")
	if s := stat(t, d, "a"); s.Synced != 3 {
		t.Errorf("1: %v", s)
	}

	d = fresh(t, 4)
	d.Create("a")
	is(t, "2", d.Append("a", []byte("hello")), api.ErrQuota)
	holds(t, d, "a=")

	d = fresh(t, 100, api.Fault{Op: 3, Kind: api.FaultTorn, N: 2})
	put(t, d, "a", "xy")
	is(t, "3", d.Append("a", []byte("hello")), api.ErrIO)
	if n, _ := d.Size("a"); n != 4 {
		t.Errorf("3: %d", n)
	}

	d = fresh(t, 100, api.Fault{Op: 2, Kind: api.FaultRead})
	put(t, d, "a", "x")

	d = fresh(t, 100, api.Fault{Op: 1, Kind: api.FaultOff})
	is(t, "5", d.Create("a"), api.ErrOff)
	is(t, "5", d.Create("a"), api.ErrOff)
	d.Restart(9)
	is(t, "5", d.Create("a"), api.OK)
	if d.Ops() != 3 {
		t.Errorf("5: %d", d.Ops())
	}

	d = fresh(t, 100, api.Fault{Op: 5, Kind: api.FaultGhost, N: 9})
	put(t, d, "a", "hello")
	b := make([]byte, 5)
	if n, e := d.ReadAt("a", 5, b); n != 0 || e != api.OK {
		t.Errorf("6: %d %v", n, e)
	}
	if n, e := d.ReadAt("a", 6, b); n != 0 || e != api.ErrPlace {
		t.Errorf("6: %d %v", n, e)
	}
	if n, e := d.ReadAt("a", 0, b); n != 5 || e != api.OK || string(b) != "hgllo" {
		t.Errorf("6: %d %v %q", n, e, b)
	}

	d = fresh(t, 100)
	put(t, d, "cur", "old")
	put(t, d, "t", "new!")
	d.Sync("cur")
	d.Sync("t")
	d.SyncDir()
	is(t, "7", d.Rename("t", "cur"), api.OK)
	d.Restart(0)
	holds(t, d, "cur=old", "t=new!")

	d = fresh(t, 100)
	put(t, d, "a", "hello")
	for _, at := range []int64{0, 5, 0} {
		d.ReadAt("a", at, b)
	}
	if s := stat(t, d, "a"); s.Seeks != 1 {
		t.Errorf("8: %v", s)
	}
}
