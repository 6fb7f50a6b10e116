package platter_test

import (
	"fmt"
	"math"
	"math/rand/v2"
	"slices"
	"strings"
	"testing"

	"sluice/api"
	"sluice/platter"
)

// dice gives the same numbers at every run.
func dice() *rand.Rand { return rand.New(rand.NewPCG(5, 6)) }

var _ api.Volume = (*platter.Disk)(nil)

func fresh(t *testing.T, quota int64, plan ...api.Fault) *platter.Disk {
	t.Helper()
	d, e := platter.New(quota, plan...)
	if d == nil || e != api.OK {
		t.Fatalf("New(%d, %v): %v", quota, plan, e)
	}
	return d
}

// is holds an error against what it should be.
func is(t *testing.T, what string, got, want api.Errno) {
	t.Helper()
	if got != want {
		t.Errorf("%s: %v, not %v", what, got, want)
	}
}

// put makes a file with some bytes.
func put(t *testing.T, d *platter.Disk, name, data string) {
	t.Helper()
	is(t, "Create "+name, d.Create(name), api.OK)
	is(t, "Append "+name, d.Append(name, []byte(data)), api.OK)
}

// holds holds a disk's files against what they should be: name=bytes, by name; it makes operations.
func holds(t *testing.T, d *platter.Disk, want ...string) {
	t.Helper()
	names, e := d.List()
	is(t, "List", e, api.OK)
	var got []string
	for _, name := range names {
		got = append(got, name+"="+whole(t, d, name))
	}
	if !slices.Equal(got, want) {
		t.Errorf("the disk holds %q, not %q", got, want)
	}
}

func whole(t *testing.T, d *platter.Disk, name string) string {
	t.Helper()
	size, e := d.Size(name)
	is(t, "Size "+name, e, api.OK)
	b := make([]byte, size)
	n, e := d.ReadAt(name, 0, b)
	is(t, "ReadAt "+name, e, api.OK)
	return string(b[:n])
}

// stat tells of one file.
func stat(t *testing.T, d *platter.Disk, name string) api.VolStat {
	t.Helper()
	for _, s := range d.Stats() {
		if s.Name == name {
			return s
		}
	}
	t.Fatalf("Stats tells nothing of %s", name)
	return api.VolStat{}
}

// operations are the nine calls, each fit to go well on a disk that has the file f of five bytes.
var operations = []struct {
	name  string
	call  func(d *platter.Disk) api.Errno
	kinds []int // of faults that fit
}{
	{"Create", func(d *platter.Disk) api.Errno { return d.Create("new") }, nil},
	{"Append", func(d *platter.Disk) api.Errno { return d.Append("f", []byte("xyz")) }, []int{api.FaultWrite, api.FaultTorn, api.FaultRot}},
	{"ReadAt", func(d *platter.Disk) api.Errno {
		n, e := d.ReadAt("f", 0, make([]byte, 5))
		return zeroWith(e, n == 0)
	}, []int{api.FaultRead, api.FaultShort, api.FaultGhost, api.FaultRot}},
	{"Size", func(d *platter.Disk) api.Errno {
		n, e := d.Size("f")
		return zeroWith(e, n == 0)
	}, nil},
	{"Sync", func(d *platter.Disk) api.Errno { return d.Sync("f") }, []int{api.FaultSync}},
	{"SyncDir", func(d *platter.Disk) api.Errno { return d.SyncDir() }, []int{api.FaultSync}},
	{"Rename", func(d *platter.Disk) api.Errno { return d.Rename("f", "g") }, nil},
	{"Remove", func(d *platter.Disk) api.Errno { return d.Remove("f") }, nil},
	{"List", func(d *platter.Disk) api.Errno {
		l, e := d.List()
		return zeroWith(e, l == nil)
	}, nil},
}

// zeroWith tells an error, and gives up where one comes with an answer that is not zero.
func zeroWith(e api.Errno, zero bool) api.Errno {
	if e != api.OK && !zero {
		panic(fmt.Sprint("an answer beside ", e))
	}
	return e
}

func TestNew(t *testing.T) {
	bad := api.Fault{Op: 0, Kind: 1}
	long := slices.Repeat([]api.Fault{{Op: 1, Kind: 1}}, api.MaxFaults+1)
	for _, c := range []struct {
		quota int64
		plan  []api.Fault
		want  api.Errno
	}{
		{0, nil, api.OK}, {api.MaxQuota, nil, api.OK}, {0, []api.Fault{}, api.OK},
		{-1, nil, api.ErrArg}, {api.MaxQuota + 1, nil, api.ErrArg}, {math.MinInt64, nil, api.ErrArg}, {math.MaxInt64, nil, api.ErrArg},
		{-1, []api.Fault{bad}, api.ErrArg}, {-1, long, api.ErrArg},
		{5, []api.Fault{bad}, api.ErrPlan}, {5, long, api.ErrLong}, {5, long[:api.MaxFaults], api.OK},
	} {
		d, e := platter.New(c.quota, c.plan...)
		if e != c.want || (d == nil) != (e != api.OK) {
			t.Errorf("New(%d, %d faults): %v %v, not %v", c.quota, len(c.plan), d, e, c.want)
		}
	}
	d := fresh(t, 5, api.Fault{Op: 2, Kind: api.FaultOff})
	if n, f := d.Used(); n != 0 || f != 0 || !d.Lit() || d.Ops() != 0 || len(d.Stats()) != 0 {
		t.Error("a new disk is not empty, or not lit")
	}
	is(t, "Create", d.Create("a"), api.OK)
	is(t, "Create with FaultOff", d.Create("b"), api.ErrOff)
}

func TestQuotaAtItsEnds(t *testing.T) {
	d := fresh(t, 0)
	put(t, d, "a", "")
	is(t, "one byte of none", d.Append("a", []byte{1}), api.ErrQuota)
	d = fresh(t, api.MaxQuota)
	put(t, d, "a", "x")
	is(t, "nil", d.Append("a", nil), api.OK)
	holds(t, d, "a=x")
}

func TestPlan(t *testing.T) {
	d := fresh(t, 9)
	for _, f := range []api.Fault{
		{Op: 0, Kind: 1}, {Op: -1, Kind: 1}, {Op: math.MinInt64, Kind: 1}, {Op: 1, Kind: 0}, {Op: 1, Kind: 10}, {Op: 1, Kind: -1}, {Op: 1, Kind: math.MaxInt}, {Op: 1, Kind: math.MinInt},
	} {
		is(t, fmt.Sprint("Plan ", f), d.Plan(api.Fault{Op: 1, Kind: api.FaultOff}, f), api.ErrPlan)
	}
	is(t, "nothing was planned", d.Create("a"), api.OK)
	is(t, "no faults", d.Plan(), api.OK)
	is(t, "the greatest number", d.Plan(api.Fault{Op: math.MaxInt64, Kind: 9, N: math.MinInt64}), api.OK)
	faults := slices.Repeat([]api.Fault{{Op: 1, Kind: 8}}, api.MaxFaults-1)
	faults[7] = api.Fault{}
	is(t, "one bad, one too many", d.Plan(append(faults, api.Fault{Op: 1, Kind: 1})...), api.ErrLong)
	is(t, "one bad", d.Plan(faults...), api.ErrPlan)
	faults[7].Op, faults[7].Kind = 3, api.FaultDown
	is(t, "all that there may be", d.Plan(faults...), api.OK)
	is(t, "Plan of none, when it is full", d.Plan(), api.OK)
	is(t, "one more, though most can't strike any more", d.Plan(api.Fault{Op: 9, Kind: 1}), api.ErrLong)
	is(t, "a bad one more", d.Plan(api.Fault{}), api.ErrLong)
	faults[7] = api.Fault{Op: 2, Kind: 8}
	is(t, "the list is not kept", d.SyncDir(), api.OK)
	is(t, "the list is not kept", d.SyncDir(), api.ErrIO)
}

func TestFirstFaultThatFitsStrikes(t *testing.T) {
	d := fresh(t, 99, api.Fault{Op: 3, Kind: api.FaultSync}, api.Fault{Op: 3, Kind: api.FaultTorn, N: 1}, api.Fault{Op: 3, Kind: api.FaultOff})
	is(t, "Plan", d.Plan(api.Fault{Op: 3, Kind: api.FaultDown}, api.Fault{Op: 4, Kind: api.FaultGhost}, api.Fault{Op: 3, Kind: api.FaultRot}), api.OK)
	put(t, d, "a", "x")
	is(t, "torn", d.Append("a", []byte("yz")), api.ErrIO)
	if !d.Lit() {
		t.Error("a second fault struck")
	}
	holds(t, d, "a=xy")
}

func TestPlanStandsBehind(t *testing.T) {
	d := fresh(t, 99)
	d.Create("a")
	is(t, "Plan", d.Plan(api.Fault{Op: 3, Kind: api.FaultTorn, N: 1}), api.OK)
	is(t, "Plan", d.Plan(api.Fault{Op: 2, Kind: api.FaultWrite}, api.Fault{Op: 3, Kind: api.FaultTorn, N: 2}), api.OK)
	is(t, "Plan for what was", d.Plan(api.Fault{Op: 1, Kind: api.FaultOff}), api.OK)
	is(t, "2", d.Append("a", []byte("123")), api.ErrIO)
	is(t, "3", d.Append("a", []byte("123")), api.ErrIO)
	holds(t, d, "a=1")
}

// Every operation with every kind of fault: what is answered, and that a refusal does nothing.
func TestGate(t *testing.T) {
	for _, op := range operations {
		for kind := api.FaultRead; kind <= api.FaultDown; kind++ {
			what := fmt.Sprint(op.name, " with fault ", kind)
			d := fresh(t, 99, api.Fault{Op: 3, Kind: kind, N: 2})
			put(t, d, "f", "hello")
			before := fmt.Sprint(d.Stats())
			want, refused := api.OK, true
			switch {
			case kind == api.FaultOff:
				want = api.ErrOff
			case kind == api.FaultDown:
				want = api.ErrIO
			case !slices.Contains(op.kinds, kind):
				refused = false
			case kind == api.FaultTorn:
				want, refused = api.ErrIO, false
			case kind == api.FaultRead || kind == api.FaultWrite || kind == api.FaultSync:
				want = api.ErrIO
			default:
				refused = false
			}
			is(t, what, op.call(d), want)
			if refused && fmt.Sprint(d.Stats()) != before {
				t.Errorf("%s did something", what)
			}
			if d.Ops() != 3 || d.Lit() != (kind < api.FaultOff) {
				t.Errorf("%s: %d operations, lit %v", what, d.Ops(), d.Lit())
			}
		}
	}
}

func TestRefusedSyncsMakeNothingDurable(t *testing.T) {
	d := fresh(t, 99, api.Fault{Op: 3, Kind: api.FaultSync}, api.Fault{Op: 4, Kind: api.FaultSync})
	put(t, d, "a", "hello")
	is(t, "Sync", d.Sync("a"), api.ErrIO)
	is(t, "SyncDir", d.SyncDir(), api.ErrIO)
	c := d.Copy()
	d.Restart(0)
	holds(t, d)
	c.Restart(1)
	holds(t, c, "a=")
}

// Off goes ahead of down, down ahead of the plan's others, all of it ahead of an operation's own errors.
func TestOffAndDown(t *testing.T) {
	for _, op := range operations {
		d := fresh(t, 99, api.Fault{Op: 1, Kind: api.FaultDown}, api.Fault{Op: 3, Kind: api.FaultOff}, api.Fault{Op: 5, Kind: api.FaultDown})
		for i, want := range []api.Errno{api.ErrIO, api.ErrIO, api.ErrOff, api.ErrOff, api.ErrOff} {
			is(t, fmt.Sprint(op.name, i+1), op.call(d), want)
		}
		is(t, "Mend", d.Mend(), api.OK)
		is(t, op.name+" mended, off", op.call(d), api.ErrOff)
		is(t, "Restart", d.Restart(0), api.OK)
		if !d.Lit() { // the fault of operation 5 came to a disk without power
			t.Errorf("%s: not lit", op.name)
		}
		is(t, "Create", d.Create("f"), api.OK)
		is(t, "Append", d.Append("f", []byte("hello")), api.OK)
		is(t, op.name, op.call(d), api.OK)
		if d.Ops() != 9 {
			t.Errorf("%s: %d operations", op.name, d.Ops())
		}
	}
	d := fresh(t, 99, api.Fault{Op: 1, Kind: api.FaultDown})
	is(t, "a bad name", d.Create("A"), api.ErrIO)
	is(t, "Restart", d.Restart(0), api.OK)
	if d.Lit() {
		t.Error("a Restart has mended it")
	}
	is(t, "a bad name", d.Create("A"), api.ErrIO)
	is(t, "Mend", d.Mend(), api.OK)
	is(t, "a bad name", d.Create("A"), api.ErrVolName)
	is(t, "Mend of what is whole", d.Mend(), api.OK)
	d = fresh(t, 99, api.Fault{Op: 1, Kind: api.FaultOff})
	is(t, "a bad name", d.Remove(""), api.ErrOff)
	d = fresh(t, 99, api.Fault{Op: 1, Kind: api.FaultRead})
	_, e := d.ReadAt("", -1, nil)
	is(t, "a bad name", e, api.ErrIO)
}

// Faults that would do something do nothing in an operation that its own errors refuse.
func TestRefusedOperationsAreNotStruck(t *testing.T) {
	d := fresh(t, 7,
		api.Fault{Op: 3, Kind: api.FaultTorn, N: 1}, api.Fault{Op: 4, Kind: api.FaultRot}, api.Fault{Op: 5, Kind: api.FaultRot}, api.Fault{Op: 6, Kind: api.FaultGhost},
		api.Fault{Op: 7, Kind: api.FaultTorn, N: 1}, api.Fault{Op: 8, Kind: api.FaultRot}, api.Fault{Op: 9, Kind: api.FaultShort})
	put(t, d, "a", "hello")
	is(t, "3", d.Append("a", []byte("xyz")), api.ErrQuota)
	is(t, "4", d.Append("a", []byte("xyz")), api.ErrQuota)
	b := []byte("zz")
	for _, at := range []int64{6, -1} {
		n, e := d.ReadAt("a", at, b)
		if n != 0 || e != api.ErrPlace {
			t.Errorf("ReadAt(%d): %d %v", at, n, e)
		}
	}
	is(t, "7", d.Append("b", []byte("x")), api.ErrNoFile)
	is(t, "8", d.Append("A", []byte("x")), api.ErrVolName)
	n, e := d.ReadAt("b", 0, b)
	if n != 0 || e != api.ErrNoFile || string(b) != "zz" {
		t.Errorf("9: %d %v", n, e)
	}
	if s := stat(t, d, "a"); s != (api.VolStat{Name: "a", Size: 5, Writes: 1, WroteBytes: 5}) {
		t.Errorf("Stats: %v", s)
	}
	holds(t, d, "a=hello")
}

var (
	goodNames = []string{"a", "z", "0", "9", ".", "-", "_", "..", "g.run.new", "a-b_c.9", strings.Repeat("x", api.MaxVolName)}
	badNames  = []string{"", "A", "Z", "a b", " ", "a/b", "`", "{", "/", ":", ",", "é", "\x00", "a\n", "\xff", "a\x80", "^", strings.Repeat("x", api.MaxVolName+1), strings.Repeat("x", 1<<20), strings.Repeat("x", 47) + "é"}
)

func TestNames(t *testing.T) {
	d := fresh(t, 99)
	for _, name := range goodNames {
		put(t, d, name, "x")
		is(t, "Sync "+name, d.Sync(name), api.OK)
	}
	got, _ := d.List()
	want := slices.Clone(goodNames)
	slices.Sort(want)
	if !slices.Equal(got, want) {
		t.Errorf("List: %q", got)
	}
	for _, name := range badNames {
		_, size := d.Size(name)
		_, read := d.ReadAt(name, -1, nil)
		for i, e := range []api.Errno{
			d.Create(name), d.Append(name, make([]byte, 100)), read, size, d.Sync(name), d.Rename(name, "a"), d.Rename("a", name), d.Rename("none", name), d.Rename(name, name), d.Remove(name), d.Flip(name, -1),
		} {
			is(t, fmt.Sprintf("%q %d", name, i), e, api.ErrVolName)
		}
	}
	for c := range 256 {
		name := string([]byte{'a', byte(c)})
		want := api.ErrVolName
		if strings.IndexByte("abcdefghijklmnopqrstuvwxyz0123456789.-_", byte(c)) >= 0 {
			want = api.OK
		}
		is(t, fmt.Sprintf("Create(%q)", name), d.Create(name), want)
	}
}

func TestNoFile(t *testing.T) {
	d := fresh(t, 3)
	put(t, d, "a", "x")
	_, size := d.Size("b")
	_, read := d.ReadAt("b", -1, nil)
	for i, e := range []api.Errno{
		d.Append("b", make([]byte, 100)), read, size, d.Sync("b"), d.Rename("b", "a"), d.Rename("b", "b"), d.Remove("b"), d.Flip("b", -1),
	} {
		is(t, fmt.Sprint("call ", i), e, api.ErrNoFile)
	}
	holds(t, d, "a=x")
}

func TestCreate(t *testing.T) {
	d := fresh(t, 9)
	put(t, d, "a", "x")
	is(t, "again", d.Create("a"), api.ErrTaken)
	holds(t, d, "a=x")
	d.Remove("a")
	is(t, "once more", d.Create("a"), api.OK)
	holds(t, d, "a=")
	for i := range api.MaxVolFiles - 1 {
		is(t, "Create", d.Create(fmt.Sprint("f", i)), api.OK)
	}
	is(t, "one more", d.Create("g"), api.ErrQuota)
	is(t, "one more that is there", d.Create("f0"), api.ErrTaken)
	is(t, "one more that is none", d.Create("F"), api.ErrVolName)
	if l, e := d.List(); len(l) != api.MaxVolFiles || e != api.OK || !slices.IsSorted(l) {
		t.Errorf("List: %d %v", len(l), e)
	}
	is(t, "Rename", d.Rename("f0", "g"), api.OK)
	is(t, "one more behind a Rename", d.Create("f0"), api.ErrQuota)
	is(t, "Rename over one", d.Rename("g", "f1"), api.OK)
	is(t, "Create", d.Create("g"), api.OK)
	is(t, "one more", d.Create("f0"), api.ErrQuota)
	is(t, "Remove", d.Remove("g"), api.OK)
	is(t, "Create", d.Create("f0"), api.OK)
}

func TestAppend(t *testing.T) {
	d := fresh(t, 10)
	data := []byte("hello!!!")
	d.Create("a")
	d.Create("b")
	is(t, "Append", d.Append("a", data[:5]), api.OK)
	if string(data) != "hello!!!" {
		t.Error("what was handed in has changed")
	}
	data[0] = 'j'
	is(t, "Append", d.Append("a", []byte{}), api.OK)
	is(t, "Append", d.Append("b", []byte("12345")), api.OK)
	is(t, "nothing when it is full", d.Append("b", nil), api.OK)
	is(t, "a byte when it is full", d.Append("b", []byte("6")), api.ErrQuota)
	holds(t, d, "a=hello", "b=12345")
	d.Remove("a")
	is(t, "in the room of what was removed", d.Append("b", []byte("67890")), api.OK)
	d.Create("c")
	d.Rename("b", "c")
	is(t, "a rename gives no room", d.Append("c", []byte("x")), api.ErrQuota)
	d.Create("d")
	d.Rename("d", "c")
	is(t, "a rename over it does", d.Append("c", []byte("1234567890")), api.OK)
	holds(t, d, "c=1234567890")
}

// A Restart may bring more back than the quota allows: then not even nothing can be written.
func TestMoreThanTheQuota(t *testing.T) {
	d := fresh(t, 10)
	put(t, d, "a", "1234567890")
	d.Create("b")
	d.Sync("a")
	d.SyncDir()
	d.Remove("a")
	is(t, "Append", d.Append("b", []byte("abcdefghij")), api.OK)
	d.Sync("b")
	d.Restart(0)
	holds(t, d, "a=1234567890", "b=abcdefghij")
	if n, f := d.Used(); n != 20 || f != 2 {
		t.Errorf("Used: %d %d", n, f)
	}
	is(t, "Append of nothing", d.Append("a", nil), api.ErrQuota)
	d.Remove("b")
	is(t, "Append of nothing", d.Append("a", nil), api.OK)
	is(t, "Append", d.Append("a", []byte("x")), api.ErrQuota)
}

func TestTorn(t *testing.T) {
	for n, want := range map[int64]string{0: "xy", 2: "xyhe", 5: "xyhello", 6: "xyhello", -1: "xy", math.MinInt64: "xy", math.MaxInt64: "xyhello"} {
		d := fresh(t, 7, api.Fault{Op: 3, Kind: api.FaultTorn, N: n})
		put(t, d, "a", "xy")
		is(t, "torn", d.Append("a", []byte("hello")), api.ErrIO)
		if s := stat(t, d, "a"); s.Writes != 2 || s.WroteBytes != int64(len(want)) {
			t.Errorf("torn at %d: %v", n, s)
		}
		if n, _ := d.Used(); n != int64(len(want)) {
			t.Errorf("Used: %d", n)
		}
		holds(t, d, "a="+want)
	}
}

// turned tells some bytes with one bit turned, counted round, by another way than the program's.
func turned(data string, n int64) string {
	if data == "" {
		return data
	}
	all := int64(8 * len(data))
	for n < 0 {
		n += all * max(1, -n/all)
	}
	bits := []byte(data)
	bits[(n%all)>>3] ^= []byte{1, 2, 4, 8, 16, 32, 64, 128}[n&7]
	return string(bits)
}

var bitNumbers = []int64{0, 1, 7, 8, 9, 39, 40, 41, 55, 56, 57, 63, 64, -1, -8, -40, -41, -56, -57, 1 << 40, math.MaxInt64, math.MinInt64, math.MinInt64 + 1}

func TestRotOfAppend(t *testing.T) {
	for _, n := range bitNumbers {
		d := fresh(t, 99, api.Fault{Op: 3, Kind: api.FaultRot, N: n}, api.Fault{Op: 5, Kind: api.FaultRot, N: n}, api.Fault{Op: 6, Kind: api.FaultRot, N: n})
		put(t, d, "a", "xy")
		is(t, "Append", d.Append("a", []byte("hello")), api.OK)
		d.Create("b")
		is(t, "nothing behind nothing", d.Append("b", nil), api.OK)
		is(t, "nothing", d.Append("a", nil), api.OK)
		holds(t, d, "a=xyhello", "b=")
		d = fresh(t, 99, api.Fault{Op: 3, Kind: api.FaultRot, N: n})
		put(t, d, "a", "xy")
		is(t, "Append", d.Append("a", []byte("hello")), api.OK)
		if s := stat(t, d, "a"); s != (api.VolStat{Name: "a", Size: 7, Writes: 2, WroteBytes: 7}) {
			t.Errorf("Stats: %v", s)
		}
		holds(t, d, "a="+turned("xyhello", n))
	}
}

func TestRotOfReadAt(t *testing.T) {
	for _, n := range bitNumbers {
		d := fresh(t, 99, api.Fault{Op: 3, Kind: api.FaultRot, N: n}, api.Fault{Op: 5, Kind: api.FaultRot, N: n})
		put(t, d, "a", "xyhello")
		want := turned("xyhello", n)
		b := []byte("12345")
		if got, e := d.ReadAt("a", 2, b); got != 5 || e != api.OK || string(b) != want[2:] {
			t.Errorf("bit %d: %d %v %q", n, got, e, b)
		}
		d.Create("b")
		if got, e := d.ReadAt("b", 0, b); got != 0 || e != api.OK {
			t.Errorf("of an empty file: %d %v", got, e)
		}
		holds(t, d, "a="+want, "b=")
	}
}

func TestReadAt(t *testing.T) {
	d := fresh(t, 99)
	put(t, d, "a", "hello")
	for _, c := range []struct {
		at   int64
		room int
		want string
		err  api.Errno
	}{
		{0, 5, "hello", api.OK}, {0, 3, "hel", api.OK}, {0, 0, "", api.OK}, {1, 9, "ello", api.OK}, {4, 1, "o", api.OK}, {5, 3, "", api.OK}, {5, 0, "", api.OK},
		{6, 3, "", api.ErrPlace}, {6, 0, "", api.ErrPlace}, {-1, 3, "", api.ErrPlace}, {math.MinInt64, 3, "", api.ErrPlace}, {math.MaxInt64, 3, "", api.ErrPlace},
	} {
		room := []byte(strings.Repeat("#", c.room+4))
		n, e := d.ReadAt("a", c.at, room[:c.room:c.room])
		want := c.want + strings.Repeat("#", c.room+4-len(c.want))
		if n != len(c.want) || e != c.err || string(room) != want {
			t.Errorf("ReadAt(%d, %d): %d %v %q", c.at, c.room, n, e, room)
		}
	}
	if n, e := d.ReadAt("a", 0, nil); n != 0 || e != api.OK {
		t.Errorf("into nil: %d %v", n, e)
	}
	b := make([]byte, 5)
	d.ReadAt("a", 0, b)
	b[0] = 'j'
	holds(t, d, "a=hello")
}

func TestShort(t *testing.T) {
	for n, want := range map[int64]int{0: 0, 1: 1, 2: 2, 3: 3, 4: 3, -1: 0, math.MinInt64: 0, math.MaxInt64: 3} {
		d := fresh(t, 99, api.Fault{Op: 3, Kind: api.FaultShort, N: n})
		put(t, d, "a", "hello")
		room := []byte("#####")
		got, e := d.ReadAt("a", 2, room)
		if got != want || e != api.OK || string(room) != "llo"[:want]+"#####"[want:] {
			t.Errorf("short by %d: %d %v %q", n, got, e, room)
		}
		if s := stat(t, d, "a"); s.Reads != 1 || s.ReadBytes != int64(want) || s.Seeks != 1 {
			t.Errorf("short by %d: %v", n, s)
		}
		d.ReadAt("a", int64(2+want), room)
		if s := stat(t, d, "a"); s.Seeks != 1 || s.ReadBytes != 3 {
			t.Errorf("going on behind a short read: %v", s)
		}
	}
}

func TestGhost(t *testing.T) {
	for _, n := range bitNumbers {
		d := fresh(t, 99, api.Fault{Op: 3, Kind: api.FaultGhost, N: n}, api.Fault{Op: 4, Kind: api.FaultGhost, N: n}, api.Fault{Op: 5, Kind: api.FaultGhost, N: n})
		put(t, d, "a", "xyhello")
		room := []byte("########")
		got, e := d.ReadAt("a", 2, room)
		if got != 5 || e != api.OK || string(room) != turned("hello", n)+"###" {
			t.Errorf("bit %d: %d %v %q", n, got, e, room)
		}
		if got, e := d.ReadAt("a", 7, room); got != 0 || e != api.OK {
			t.Errorf("of nothing: %d %v", got, e)
		}
		if got, e := d.ReadAt("a", 0, room[:3]); got != 3 || e != api.OK || string(room[:3]) != turned("xyh", n) {
			t.Errorf("of three: %d %v %q", got, e, room)
		}
		holds(t, d, "a=xyhello")
	}
}

func TestSizeAndList(t *testing.T) {
	d := fresh(t, 99)
	if l, e := d.List(); len(l) != 0 || e != api.OK {
		t.Errorf("List of none: %v %v", l, e)
	}
	for _, name := range []string{"b", "a.b", "a-", "_", "c", "a", "9"} {
		put(t, d, name, name)
	}
	for range 20 { // a map has no order of its own
		l, e := d.List()
		if e != api.OK || strings.Join(l, " ") != "9 _ a a- a.b b c" {
			t.Errorf("List: %q %v", l, e)
		}
		l[0] = "x"
		_ = append(l[:1], "y")
	}
	if n, e := d.Size("a.b"); n != 3 || e != api.OK {
		t.Errorf("Size: %d %v", n, e)
	}
}

func TestSync(t *testing.T) {
	d := fresh(t, 99)
	put(t, d, "a", "hello")
	put(t, d, "b", "world")
	is(t, "Sync", d.Sync("a"), api.OK)
	is(t, "SyncDir", d.SyncDir(), api.OK)
	d.Append("a", []byte("!!"))
	if s := d.Stats(); s[0].Synced != 5 || s[0].Size != 7 || s[1].Synced != 0 {
		t.Errorf("Stats: %v", s)
	}
	d.Restart(0)
	holds(t, d, "a=hello", "b=")
	d.Append("b", []byte("w"))
	d.Sync("b")
	d.Restart(9)
	holds(t, d, "a=hello", "b=w")
}

func TestRename(t *testing.T) {
	d := fresh(t, 99)
	put(t, d, "a", "one")
	put(t, d, "b", "second")
	d.SyncDir()
	is(t, "to itself", d.Rename("a", "a"), api.OK)
	is(t, "over another", d.Rename("a", "b"), api.OK)
	is(t, "to a new one", d.Rename("b", "c"), api.OK)
	if n, f := d.Used(); n != 3 || f != 1 {
		t.Errorf("Used: %d %d", n, f)
	}
	for i, want := range [][]string{{"a=one", "b=second"}, {"b=one"}, {"c=one"}, {"c=one"}} {
		c := d.Copy()
		c.Restart(i, 9, 9)
		holds(t, c, want...)
	}
	holds(t, d, "c=one")
}

func TestRemove(t *testing.T) {
	d := fresh(t, 99)
	put(t, d, "a", "one")
	d.Sync("a")
	d.SyncDir()
	is(t, "Remove", d.Remove("a"), api.OK)
	is(t, "Remove again", d.Remove("a"), api.ErrNoFile)
	put(t, d, "a", "another")
	for i, want := range [][]string{{"a=one"}, nil, {"a=anoth"}} {
		c := d.Copy()
		c.Restart(i, 5)
		holds(t, c, want...)
	}
	d.Remove("a")
	d.SyncDir()
	d.Restart(9)
	holds(t, d)
}

func TestFaultsOfOneByte(t *testing.T) {
	d := fresh(t, 9, api.Fault{Op: 2, Kind: api.FaultRot, N: 8}, api.Fault{Op: 3, Kind: api.FaultGhost, N: -7}, api.Fault{Op: 4, Kind: api.FaultRot, N: 9})
	put(t, d, "a", "p")
	for i, want := range []string{"s", "s", "s"} {
		b := []byte{0}
		if n, e := d.ReadAt("a", 0, b); n != 1 || e != api.OK || string(b) != want {
			t.Errorf("read %d: %d %v %q", i, n, e, b)
		}
	}
}
