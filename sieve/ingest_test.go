package sieve_test

import (
	"fmt"
	"hash/crc32"
	"iter"
	"math"
	"math/rand"
	"slices"
	"testing"

	"sluice/api"
	"sluice/platter"
	"sluice/sieve"
)

// tellWrong tells edges, some of them with an error, and goes on behind it as long as it is asked.
func tellWrong(edges []api.Edge, wrong map[int]api.Errno) iter.Seq2[api.Edge, api.Errno] {
	return func(yield func(api.Edge, api.Errno) bool) {
		for i, e := range edges {
			if !yield(e, wrong[i]) {
				return
			}
		}
	}
}

// ingest hands g to Ingest.
func ingest(t testing.TB, v api.Volume, g given) (api.Haul, api.Errno) {
	t.Helper()
	return sieve.Ingest(v, g.name, split(t, g.n, g.k), g.kind, g.both, tellWrong(g.edges, g.wrong), g.fan, make([]api.Edge, g.room), make([]api.Edge, g.room), make([]byte, g.bytes))
}

// example is the chapter's fourth.
func example(both bool) given {
	return given{name: "g", n: 3, k: 2, kind: api.EPlain, both: both, edges: []api.Edge{{Src: 0, Dst: 1}, {Src: 2, Dst: 0}, {Src: 0, Dst: 2}}, fan: 2, room: 4, bytes: 64}
}

// P9.11: example 4, with counts, sums and titles
func TestIngestExample(t *testing.T) {
	e := example(true).edges
	body := func(some ...api.Edge) (b []byte) {
		for _, x := range some {
			b = append(b, edgeBytes(api.EPlain, x)...)
		}
		return b
	}
	bodies := [][]byte{body(e[0], e[2]), body(e[1])}
	backs := [][]byte{body(e[0], e[1]), body(e[2])}
	crc := crc32.ChecksumIEEE
	for _, both := range []bool{false, true} {
		d := disk(t)
		h, err := ingest(t, d, example(both))
		want := api.Haul{Edges: 3, Parts: []int64{2, 1}, Sums: []uint32{crc(bodies[0]), crc(bodies[1])}, Sum: sumBy([]int64{2, 1}, bodies)}
		files := 2
		if both {
			files = 4
			want.Back, want.BackSums = []int64{2, 1}, []uint32{crc(backs[0]), crc(backs[1])}
			var b []byte
			for _, sum := range []uint32{want.Sum, sumBy([]int64{2, 1}, backs)} {
				b = append(b, byte(sum), byte(sum>>8), byte(sum>>16), byte(sum>>24))
			}
			want.Sum = crc(b)
		}
		if err != api.OK || !sameHaul(h, want) {
			t.Errorf("both %v: %+v %v, want %+v", both, h, err, want)
		}
		if left := contents(t, d); len(left) != files {
			t.Errorf("both %v: %d files", both, len(left))
		}
		for p := range 2 {
			holdFile(t, d, "g", p, api.FamEdges, api.EPlain, [][]api.Edge{{e[0], e[2]}, {e[1]}}[p], h.Sums[p])
			if both {
				holdFile(t, d, "g", p, api.FamBack, api.EPlain, [][]api.Edge{{e[0], e[1]}, {e[2]}}[p], h.BackSums[p])
			}
		}
	}
}

func sameHaul(a, b api.Haul) bool {
	return a.Edges == b.Edges && slices.Equal(a.Parts, b.Parts) && slices.Equal(a.Back, b.Back) && slices.Equal(a.Sums, b.Sums) && slices.Equal(a.BackSums, b.BackSums) && a.Sum == b.Sum
}

// holdFile reads a file back under the title that P9.11 asks for.
func holdFile(t *testing.T, v api.Volume, name string, p, family int, kind api.EdgeKind, want []api.Edge, sum uint32) {
	t.Helper()
	width := 12
	if kind == api.EPlain {
		width = 8
	}
	file := fmt.Sprintf("%s-%c-%04d", name, " er"[family], p)
	got, read := edgesOf(t, v, file, api.Title{Family: family, Width: width, Tag: tag(name, p)}, kind)
	if !slices.Equal(got, want) || read != sum {
		t.Fatalf("%s: %v, want %v; sum %08x, want %08x", file, got, want, read, sum)
	}
}

// P9.11: what is refused ahead of any operation, and which refusal comes first
func TestIngestRefusals(t *testing.T) {
	var zero sieve.Ranges
	c := split(t, 3, 2)
	feed := sieve.Feed(example(true).edges, api.OK)
	for i, x := range []struct {
		nothing bool
		c       sieve.Ranges
		kind    api.EdgeKind
		both    bool
		edges   iter.Seq2[api.Edge, api.Errno]
		fan     int
		a, b    int
		want    api.Errno
	}{
		{true, zero, 0, true, nil, 0, 0, 0, api.ErrNil},
		{true, c, api.EPlain, true, feed, 2, 4, 4, api.ErrNil},
		{false, c, api.EPlain, true, nil, 2, 4, 4, api.ErrNil},
		{false, zero, 0, true, nil, 0, 0, 0, api.ErrNil},
		{false, zero, 0, true, feed, 0, 0, 0, api.ErrCut},
		{false, zero, api.EReal, false, feed, 2, 4, 4, api.ErrCut},
		{false, c, 0, true, feed, 0, 0, 0, api.ErrArg},
		{false, c, 4, false, feed, 2, 4, 4, api.ErrArg},
		{false, c, -1, false, feed, 1, 4, 4, api.ErrArg},
		{false, c, math.MaxInt, false, feed, 2, 4, 4, api.ErrArg},
		{false, c, api.EPlain, true, feed, 1, 0, 0, api.ErrFan},
		{false, c, api.ECounted, true, feed, 257, 4, 4, api.ErrFan},
		{false, c, api.EReal, false, feed, math.MinInt, 4, 4, api.ErrFan},
		{false, c, api.EPlain, false, feed, 2, 0, 4, api.ErrTight},
		{false, c, api.EPlain, true, feed, 256, 1, 1, api.ErrTight},
		{false, c, api.EPlain, true, feed, 2, 0, 0, api.ErrTight},
		{false, c, api.EPlain, false, feed, 2, 4, 3, api.ErrTight},
		{false, c, api.EPlain, true, feed, 2, 5, 4, api.ErrTight},
		{false, c, api.EPlain, true, feed, 2, 2, 0, api.ErrTight},
	} {
		w := &wire{Volume: disk(t)}
		var v api.Volume = w
		if x.nothing {
			v = nil
		}
		h, err := sieve.Ingest(v, "g", x.c, x.kind, x.both, x.edges, x.fan, make([]api.Edge, x.a), make([]api.Edge, x.b), make([]byte, 10))
		if err != x.want || !sameHaul(h, api.Haul{}) || len(w.calls) != 0 {
			t.Errorf("%d: %+v %v, want %v; %q", i, h, err, x.want, w.calls)
		}
	}
}

// P9.11: errors of opening come behind those, and ahead of the edges, which are not asked for
func TestIngestOpening(t *testing.T) {
	c := split(t, 3, 2)
	asked := 0
	feed := func(yield func(api.Edge, api.Errno) bool) {
		asked++
		yield(api.Edge{Src: 9}, api.ErrState)
	}
	var gone *platter.Disk
	for i, x := range []struct {
		v     api.Volume
		name  string
		bytes int
		want  api.Errno
	}{
		{disk(t), "g", 35, api.ErrRoom}, {disk(t), "g", 0, api.ErrRoom}, {disk(t), "G", 64, api.ErrVolName}, {disk(t), "a name that is too long for a file, by far it is", 64, api.ErrVolName}, {gone, "g", 64, api.ErrNil},
	} {
		h, err := sieve.Ingest(x.v, x.name, c, api.EReal, true, feed, 2, make([]api.Edge, 2), make([]api.Edge, 2), make([]byte, x.bytes))
		if err != x.want || !sameHaul(h, api.Haul{}) || asked != 0 {
			t.Errorf("%d: %+v %v, want %v; asked %d times", i, h, err, x.want, asked)
		}
	}
}

// P9.11: bounds at which it is not refused
func TestIngestBounds(t *testing.T) {
	for i, g := range []given{
		{n: 1, k: 1, both: false, room: 1, bytes: 36, fan: 2},
		{n: 1, k: 1, both: true, room: 2, bytes: 36, fan: 256},
		{n: api.MaxVertices, k: 3, both: true, room: 3, bytes: 36, fan: 2},
		{n: 512, k: 512, both: true, room: 7, bytes: 40, fan: 2},
	} {
		g.name, g.kind = "g", api.ECounted
		last := g.n - 1
		g.edges = []api.Edge{{Src: 0, Dst: last, W: math.MaxUint32}, {Src: last, Dst: 0, W: 1 << 31}, {Src: last, Dst: last}}
		d := disk(t)
		h, err := ingest(t, d, g)
		if err != api.OK || h.Edges != 3 || len(h.Parts) != g.k || len(h.Back) != len(h.BackSums) || g.both && len(h.Back) != g.k || !g.both && h.Back != nil {
			t.Errorf("%d: %v %v", i, h.Edges, err)
		}
		if h.Parts[g.k-1] < 2 || g.both && h.Back[g.k-1] < 2 {
			t.Errorf("%d: the last part has %d edges", i, h.Parts[g.k-1])
		}
	}
}

// P9.11: nothing to take in
func TestIngestOfNothing(t *testing.T) {
	for _, both := range []bool{false, true} {
		g := example(both)
		g.edges = nil
		d := disk(t)
		h, err := ingest(t, d, g)
		if err != api.OK || h.Edges != 0 || !slices.Equal(h.Parts, []int64{0, 0}) || !slices.Equal(h.Sums, []uint32{0, 0}) {
			t.Errorf("both %v: %+v %v", both, h, err)
		}
		w := worldOf(nil)
		if want, _ := sketchIngest(w, g); !sameHaul(h, want) {
			t.Errorf("both %v: %+v, want %+v", both, h, want)
		}
		for p := range 2 {
			holdFile(t, d, "g", p, api.FamEdges, api.EPlain, nil, 0)
		}
	}
}

// P9.11: which edge ends it, and with what
func TestIngestWrongEdges(t *testing.T) {
	const nan, inf, least = 0x7fc00001, 0xff800000, 0x7f800001
	for i, x := range []struct {
		kind api.EdgeKind
		e    api.Edge
		with api.Errno
		want api.Errno
	}{
		{api.EPlain, api.Edge{Src: 3, Dst: 0}, api.OK, api.ErrVertex},
		{api.EPlain, api.Edge{Src: 0, Dst: 3}, api.OK, api.ErrVertex},
		{api.EPlain, api.Edge{Src: math.MaxUint32, Dst: math.MaxUint32, W: 1}, api.OK, api.ErrVertex},
		{api.EReal, api.Edge{Src: 0, Dst: 3, W: nan}, api.OK, api.ErrVertex},
		{api.EPlain, api.Edge{Src: 2, Dst: 2, W: 1}, api.OK, api.ErrWeight},
		{api.EPlain, api.Edge{Src: 2, Dst: 2, W: 1 << 31}, api.OK, api.ErrWeight},
		{api.EReal, api.Edge{W: nan}, api.OK, api.ErrWeight},
		{api.EReal, api.Edge{W: inf}, api.OK, api.ErrWeight},
		{api.EReal, api.Edge{W: 0x7f800000}, api.OK, api.ErrWeight},
		{api.EReal, api.Edge{W: least}, api.OK, api.ErrWeight},
		{api.EReal, api.Edge{W: math.MaxUint32}, api.OK, api.ErrWeight},
		{api.EPlain, api.Edge{Src: 9, Dst: 9, W: 9}, api.ErrToken, api.ErrToken},
		{api.EPlain, api.Edge{Src: 1, Dst: 1}, api.ErrIO, api.ErrIO},
		{api.EReal, api.Edge{W: 0x7f7fffff}, api.OK, api.OK},
		{api.EReal, api.Edge{W: 0xff7fffff}, api.OK, api.OK},
		{api.EReal, api.Edge{W: 1 << 31}, api.OK, api.OK},
		{api.EReal, api.Edge{W: 1}, api.OK, api.OK},
		{api.ECounted, api.Edge{W: nan}, api.OK, api.OK},
		{api.ECounted, api.Edge{W: math.MaxUint32}, api.OK, api.OK},
		{api.EPlain, api.Edge{Src: 2, Dst: 2}, api.OK, api.OK},
	} {
		for _, both := range []bool{false, true} {
			for _, at := range []int{0, 1, 5} {
				edges := slices.Repeat([]api.Edge{{Src: 1, Dst: 2}}, 7)
				edges[at] = x.e
				g := given{name: "g", n: 3, k: 3, kind: x.kind, both: both, edges: edges, wrong: map[int]api.Errno{at: x.with}, fan: 2, room: 4, bytes: 64}
				d := disk(t)
				d.Create("g-e-0003")
				h, err := ingest(t, d, g)
				if err != x.want {
					t.Errorf("%d, at %d: %v, want %v", i, at, err, x.want)
				}
				if left := contents(t, d); err != api.OK && (!sameHaul(h, api.Haul{}) || len(left) != 1) {
					t.Errorf("%d, at %d: %+v, left %v", i, at, h, left)
				}
			}
		}
	}
}

// P9.11: the edges are left where they end it, and asked for no more than once
func TestIngestLeavesEarly(t *testing.T) {
	told, begun, ended := 0, 0, 0
	feed := func(yield func(api.Edge, api.Errno) bool) {
		begun++
		defer func() { ended++ }()
		for i := range 10 {
			told++
			e, err := api.Edge{Src: uint32(i)}, api.OK
			if !yield(e, err) {
				return
			}
		}
	}
	_, err := sieve.Ingest(disk(t), "g", split(t, 4, 2), api.EPlain, true, feed, 2, make([]api.Edge, 4), make([]api.Edge, 4), make([]byte, 64))
	if err != api.ErrVertex || told != 5 || begun != 1 || ended != 1 {
		t.Errorf("%v: told %d, begun %d, ended %d", err, told, begun, ended)
	}
	told = 0
	h, err := sieve.Ingest(disk(t), "g", split(t, 10, 2), api.EPlain, true, feed, 2, make([]api.Edge, 4), make([]api.Edge, 4), make([]byte, 64))
	if err != api.OK || h.Edges != 10 || told != 10 || begun != 2 || ended != 2 {
		t.Errorf("%v: told %d, begun %d, ended %d", err, told, begun, ended)
	}
}

// P9.11: its operations, one by one, with a fault at every one of them, whether Removes are refused or not
func TestIngestFaults(t *testing.T) {
	for _, both := range []bool{false, true} {
		g := example(both)
		g.edges = append(g.edges, g.edges...)
		whole := worldOf(nil)
		if _, err := sketchIngest(whole, g); err != api.OK {
			t.Fatalf("the sketch: %v", err)
		}
		for at := 1; at <= len(whole.calls)+1; at++ {
			for _, refuses := range []bool{false, true} {
				fail := map[int]api.Errno{at: api.ErrQuota}
				if refuses {
					for later := range 40 {
						fail[at+1+later] = api.ErrOff
					}
				}
				w := &wire{Volume: disk(t), fail: fail}
				m := worldOf(fail)
				h, err := ingest(t, w, g)
				want, wantErr := sketchIngest(m, g)
				if !sameHaul(h, want) || err != wantErr || !slices.Equal(w.calls, m.calls) {
					t.Fatalf("both %v, fault at %d: %+v %v, want %+v %v\n%q, want\n%q", both, at, h, err, want, wantErr, w.calls, m.calls)
				}
				if (err == api.OK) != (at > len(whole.calls)) || err != api.OK && err != api.ErrQuota {
					t.Errorf("both %v, fault at %d: %v", both, at, err)
				}
				if left := contents(t, w.Volume); err != api.OK && !refuses && len(left) != 0 {
					t.Errorf("both %v, fault at %d: left %v", both, at, left)
				}
			}
		}
	}
}

// P9.11 against its second reading, call by call
func TestIngestAgainstSketch(t *testing.T) {
	r := rand.New(rand.NewSource(5))
	for i := range 20000 {
		g := randomGiven(r)
		fail := map[int]api.Errno{}
		for range r.Intn(3) {
			fail[r.Intn(40)+1] = []api.Errno{api.ErrIO, api.ErrQuota, api.ErrNoFile, api.ErrOff}[r.Intn(4)]
		}
		var there []string
		d := disk(t)
		if r.Intn(8) == 0 {
			there = []string{sieve.EdgeFile(g.name, r.Intn(g.k), r.Intn(2) == 0)}
			d.Create(there[0])
		}
		w, m := &wire{Volume: d, fail: fail}, worldOf(fail, there...)
		a, wholeA := spare(g.room, api.Edge{Src: 77})
		b, wholeB := spare(g.room+r.Intn(3), api.Edge{Src: 78})
		behind := slices.Clone(b[g.room:])
		odd := g.both && g.room%2 == 1
		buf, wholeBuf := spare(g.bytes, byte(0xee))
		h, err := sieve.Ingest(w, g.name, split(t, g.n, g.k), g.kind, g.both, tellWrong(g.edges, g.wrong), g.fan, a, b, buf)
		want, wantErr := sketchIngest(m, g)
		if !sameHaul(h, want) || err != wantErr || !slices.Equal(w.calls, m.calls) {
			t.Fatalf("world %d: %+v %v, want %+v %v\n%q, want\n%q", i, h, err, want, wantErr, w.calls, m.calls)
		}
		if !wholeA() || !wholeB() || !wholeBuf() || !slices.Equal(b[g.room:], behind) || odd && (a[g.room-1] != api.Edge{Src: 77} || b[g.room-1] != api.Edge{Src: 78}) {
			t.Fatalf("world %d: a place that is no spill's was changed", i)
		}
	}
}

// randomGiven makes up an Ingest that is not refused at once; at times one of its edges is wrong.
func randomGiven(r *rand.Rand) given {
	g := given{name: []string{"g", "graph_7", "x"}[r.Intn(3)], n: uint32(r.Intn(12) + 1), kind: api.EdgeKind(r.Intn(3) + 1), both: r.Intn(2) == 0, fan: r.Intn(4) + 2, bytes: 36 + r.Intn(40), wrong: map[int]api.Errno{}}
	g.k = r.Intn(min(int(g.n), 6)) + 1
	g.room = r.Intn(9) + 2
	for range r.Intn(20) {
		e := api.Edge{Src: uint32(r.Intn(int(g.n))), Dst: uint32(r.Intn(int(g.n)))}
		if g.kind != api.EPlain {
			e.W = r.Uint32() &^ (1 << 30)
		}
		g.edges = append(g.edges, e)
	}
	if n := len(g.edges); n > 0 && r.Intn(4) == 0 {
		at := r.Intn(n)
		switch r.Intn(4) {
		case 0:
			g.wrong[at] = api.ErrToken
		case 1:
			g.edges[at].Src = g.n
		case 2:
			g.edges[at].Dst = g.n + uint32(r.Intn(3))
		case 3:
			g.edges[at].W = 0x7f800000
		}
	}
	return g
}

// P9.12
func TestEdgeFile(t *testing.T) {
	for _, x := range []struct {
		name string
		part int
		back bool
		want string
	}{
		{"g", 0, false, "g-e-0000"}, {"g", 0, true, "g-r-0000"}, {"graph_1", 7, false, "graph_1-e-0007"}, {"x", 42, true, "x-r-0042"},
		{"x", 511, false, "x-e-0511"}, {"x", 999, false, "x-e-0999"}, {"x", 1000, false, "x-e-1000"}, {"x", 9999, true, "x-r-9999"}, {"x", 10000, true, "x-r-10000"},
		{"", 3, false, "-e-0003"}, {"A b\xff", 12, false, "A b\xff-e-0012"}, {"x", math.MaxInt, false, "x-e-9223372036854775807"},
		{"x", -5, false, "x-e--0005"}, {"x", math.MinInt, true, "x-r--9223372036854775808"},
	} {
		if got := sieve.EdgeFile(x.name, x.part, x.back); got != x.want {
			t.Errorf("EdgeFile(%q, %d, %v): %q, want %q", x.name, x.part, x.back, got, x.want)
		}
	}
}

type fed struct {
	e   api.Edge
	err api.Errno
}

func allOf(feed iter.Seq2[api.Edge, api.Errno]) []fed {
	var all []fed
	for e, err := range feed {
		all = append(all, fed{e, err})
	}
	return all
}

// P9.15
func TestFeed(t *testing.T) {
	x, y := api.Edge{Src: 1, Dst: 2, W: 3}, api.Edge{Src: 4}
	for i, c := range []struct {
		edges  []api.Edge
		behind api.Errno
		want   []fed
	}{
		{nil, api.OK, nil}, {[]api.Edge{}, api.OK, nil}, {nil, api.ErrIO, []fed{{api.Edge{}, api.ErrIO}}},
		{[]api.Edge{x, y, x}, api.OK, []fed{{x, api.OK}, {y, api.OK}, {x, api.OK}}},
		{[]api.Edge{x}, api.ErrToken, []fed{{x, api.OK}, {api.Edge{}, api.ErrToken}}},
		{[]api.Edge{x}, -1, []fed{{x, api.OK}, {api.Edge{}, -1}}},
	} {
		feed := sieve.Feed(c.edges, c.behind)
		for range 3 { // more than once
			if got := allOf(feed); !slices.Equal(got, c.want) {
				t.Errorf("%d: %v, want %v", i, got, c.want)
			}
		}
		for stop := range len(c.want) { // left early, and nested
			n := 0
			for e, err := range feed {
				if (fed{e, err}) != c.want[n] || !slices.Equal(allOf(feed), c.want) {
					t.Errorf("%d, left at %d: %v %v", i, stop, e, err)
				}
				if n == stop {
					break
				}
				n++
			}
			if n != stop {
				t.Errorf("%d: left at %d, not at %d", i, n, stop)
			}
		}
	}
}

// P9.15: the edges are told as they were when it was made
func TestFeedOfAListThatIsChanged(t *testing.T) {
	edges := []api.Edge{{Src: 1}, {Src: 2}, {Src: 3}}
	feed := sieve.Feed(edges[:2], api.ErrIO)
	want := []fed{{api.Edge{Src: 1}, api.OK}, {api.Edge{Src: 2}, api.OK}, {api.Edge{}, api.ErrIO}}
	edges[0].Src, edges[1].Dst = 9, 9
	n := 0
	for e, err := range feed {
		edges[1].Src++
		if (fed{e, err}) != want[n] {
			t.Errorf("%d: %v %v", n, e, err)
		}
		n++
	}
	if got := allOf(feed); !slices.Equal(got, want) || edges[2] != (api.Edge{Src: 3}) {
		t.Errorf("%v, %v", got, edges)
	}
}
