package wheel_test

import (
	"encoding/binary"
	"hash/crc32"
	"math/rand/v2"
	"slices"
	"strings"
	"testing"

	"sluice/api"
	"sluice/platter"
	"sluice/purse"
	"sluice/reel"
	"sluice/roster"
	"sluice/sieve"
	"sluice/wheel"
)

// stored tells the records of a file, by a reader of the test's own.
func stored(t *testing.T, d *platter.Disk, g api.Graph, part int, back bool) ([]api.Edge, uint32) {
	t.Helper()
	f, _ := reel.EdgeForm(g.Kind)
	title := api.Title{Family: api.FamEdges, Width: f.Width(), Tag: uint64(crc32.ChecksumIEEE([]byte(g.Name)))<<32 + uint64(part)}
	if back {
		title.Family = api.FamBack
	}
	r, e := reel.Open(d, sieve.EdgeFile(g.Name, part, back), title, f, make([]byte, 1<<20))
	if e != api.OK {
		t.Fatal(e)
	}
	var l []api.Edge
	for _, x := range r.All() {
		l = append(l, x)
	}
	if !r.Done() {
		t.Fatal("a file that is not whole")
	}
	return l, r.Sum()
}

// P12.1: each edge lies in the file of its source's part, and in that of its destination's, in the order in which they came; the manifest names the files, and is what is answered.
func TestPlant(t *testing.T) {
	for seed := range uint64(150) {
		rnd := rand.New(rand.NewPCG(seed, 12))
		w := anyWorld(rnd, 40)
		w.g.Edges, w.g.Sum = rnd.Int64(), rnd.Uint32() // these are not looked at
		d := disk(t)
		p := bag(t, 40*w.batch+8*w.g.Parts+4096)
		g, e := wheel.Plant(d, p, w.g, w.batch, w.fan, wheel.Feed(w.edges))
		if e != api.OK || p.Used() != 0 {
			t.Fatalf("P12.1: world %d: %d", seed, e)
		}
		m, e := roster.ToGraph(text(t, d, "g.graph"))
		if e != api.OK || m.Graph != g {
			t.Fatalf("P12.1: the manifest says %v, the answer %v (%d)", m.Graph, g, e)
		}
		want := w.g
		want.Edges, want.Sum = int64(len(w.edges)), g.Sum
		if g != want {
			t.Fatalf("P12.1: %v, want %v", g, want)
		}
		cut, _ := sieve.Split(g.N, g.Parts)
		var files []api.FileMark
		var haul []uint32
		for _, back := range []bool{false, true}[:len(m.Files)/g.Parts] {
			row := []byte{}
			for part := range g.Parts {
				var mine []api.Edge
				for _, x := range w.edges {
					if !back && cut.BySrc(x) == part || back && cut.ByDst(x) == part {
						mine = append(mine, x)
					}
				}
				got, sum := stored(t, d, g, part, back)
				if !slices.Equal(got, mine) {
					t.Fatalf("P12.1: world %d: part %d has %v, want %v", seed, part, got, mine)
				}
				files = append(files, api.FileMark{Name: sieve.EdgeFile("g", part, back), Records: int64(len(mine)), Sum: sum})
				row = binary.LittleEndian.AppendUint64(row, uint64(len(mine)))
				row = binary.LittleEndian.AppendUint32(row, sum)
			}
			haul = append(haul, crc32.ChecksumIEEE(row))
		}
		if !slices.Equal(files, m.Files) || g.Both != (len(haul) == 2) {
			t.Fatalf("P12.1: files %v, want %v", m.Files, files)
		}
		if s := identityOf(g, haul); s != g.Sum {
			t.Fatalf("P12.1: Sum %08x, want %08x", g.Sum, s)
		}
		if n := len(list(t, d)); n != len(files)+1 {
			t.Fatalf("P12.1: %d files", n)
		}
	}
}

// identityOf is P12.1's sentence on Sum.
func identityOf(g api.Graph, spills []uint32) uint32 {
	all := spills[0]
	if len(spills) == 2 {
		all = crc32.ChecksumIEEE(binary.LittleEndian.AppendUint32(binary.LittleEndian.AppendUint32(nil, spills[0]), spills[1]))
	}
	b := binary.LittleEndian.AppendUint32(nil, g.N)
	b = append(b, byte(g.Kind))
	b = binary.LittleEndian.AppendUint16(b, uint16(g.Parts))
	if g.Both {
		b = append(b, 1)
	} else {
		b = append(b, 0)
	}
	return crc32.ChecksumIEEE(binary.LittleEndian.AppendUint32(b, all))
}

// P12.1, 0.5: all files are closed and synced and the directory is synced ahead of the publishing.
func TestPlantWritesInOrder(t *testing.T) {
	w := some()
	s := &spy{Volume: disk(t)}
	w.plant(t, s)
	temp := slices.Index(s.log, "Create g.graph.new")
	synced := slices.Index(s.log, "SyncDir ")
	for i, line := range s.log {
		own := strings.Contains(line, " g-e-") || strings.Contains(line, " g-r-")
		if own && i > synced {
			t.Errorf("P12.1: %s behind the directory's sync", line)
		}
	}
	for _, name := range []string{"g-e-0000", "g-e-0001", "g-e-0002", "g-r-0000", "g-r-0001", "g-r-0002"} {
		if i := slices.Index(s.log, "Sync "+name); i < 0 || i > synced {
			t.Errorf("P12.1: %s is not synced", name)
		}
	}
	if synced < 0 || temp < synced || s.log[len(s.log)-1] != "SyncDir " || s.log[len(s.log)-2] != "Rename g.graph.new g.graph" {
		t.Errorf("P12.1: %v", s.log)
	}
}

// planting is a call of Plant.
type planting struct {
	v          api.Volume
	p          *purse.Purse
	g          api.Graph
	batch, fan int
	edges      []api.Edge
	none       bool // no iterator
	behind     api.Errno
}

func (c planting) try() (api.Graph, api.Errno) {
	if c.none {
		return wheel.Plant(c.v, c.p, c.g, c.batch, c.fan, nil)
	}
	if c.behind != api.OK {
		return wheel.Plant(c.v, c.p, c.g, c.batch, c.fan, behind(c.edges, c.behind))
	}
	return wheel.Plant(c.v, c.p, c.g, c.batch, c.fan, wheel.Feed(c.edges))
}

// P12.1: each error by itself, and which goes first.
func TestPlantRefuses(t *testing.T) {
	type spoil []func(c *planting)
	steps := []struct {
		e     api.Errno
		spoil spoil
	}{
		{api.ErrNil, spoil{func(c *planting) { c.v = nil }, func(c *planting) { c.p = nil }, func(c *planting) { c.none = true }}},
		{api.ErrArg, spoil{
			func(c *planting) { c.g.Name = "" }, func(c *planting) { c.g.Name = "abcdefghijklmnopq" }, func(c *planting) { c.g.Name = "G" }, func(c *planting) { c.g.Name = "a-b" }, func(c *planting) { c.g.Name = "a." }, func(c *planting) { c.g.Name = "é" },
			func(c *planting) { c.g.N = 0 }, func(c *planting) { c.g.N = api.MaxVertices + 1 }, func(c *planting) { c.g.Kind = 0 }, func(c *planting) { c.g.Kind = 4 }, func(c *planting) { c.g.Kind = -1 },
			func(c *planting) { c.g.Parts = 0 }, func(c *planting) { c.g.Parts = 6 }, func(c *planting) { c.g.N, c.g.Parts = 1000, 513 }, func(c *planting) { c.g.Parts = -1 },
			func(c *planting) { c.batch = 15 }, func(c *planting) { c.batch = 65537 }, func(c *planting) { c.fan = 1 }, func(c *planting) { c.fan = 257 }, func(c *planting) { c.fan = -2 }}},
		{api.ErrThere, spoil{func(c *planting) { c.v.Create("g.graph") }, func(c *planting) { put(t, c.v, "g.graph", "whatever") }}},
		{api.ErrSpent, spoil{func(c *planting) { c.p = bag(t, c.batch-1) }, func(c *planting) {
			purse.Take[uint64](c.p, c.p.Words()-15)
		}}},
		{api.ErrIO, spoil{func(c *planting) { c.v = refusing(c.v, "List", api.ErrIO) }, func(c *planting) {
			put(t, c.v, "g-r-0001", "stray")
			put(t, c.v, "g-r-0002", "stray")
			c.v = refusing(c.v, "Remove g-r-0001", api.ErrIO)
		}}},
	}
	d := disk(t)
	fresh := func() planting {
		return planting{v: d.Copy(), p: bag(t, 1<<16), g: api.Graph{Name: "g", N: 5, Kind: api.EReal, Parts: 3, Both: true}, batch: 16, fan: 2, edges: []api.Edge{{Src: 4, Dst: 0, W: 0x3f800000}}, behind: 77}
	}
	for i, first := range steps {
		for k, b := range first.spoil {
			for j := i; j < len(steps); j++ {
				c := fresh()
				if j > i && first.e != api.ErrNil {
					steps[j].spoil[0](&c)
				} else if j > i {
					c.g.Name = ""
				}
				b(&c)
				var used int
				if c.p != nil {
					used = c.p.Used()
				}
				if g, e := c.try(); e != first.e || g != (api.Graph{}) || c.p.Used() != used {
					t.Errorf("P12.1: %d (%d) with %d beside: %d", first.e, k, steps[j].e, e)
				}
			}
		}
	}
	if g, e := fresh().try(); e != 77 || g != (api.Graph{}) {
		t.Errorf("P12.1: the iterator's error: %d", e)
	}
	for _, e := range []api.Errno{api.ErrIO, api.ErrOff} {
		c := fresh()
		c.v = refusing(c.v, "Size g.graph", e)
		if _, f := c.try(); f != e {
			t.Errorf("P12.1: the manifest can't be asked for: %d", f)
		}
	}
}

// P12.1: numbers at their bounds.
func TestPlantAtTheBounds(t *testing.T) {
	for i, c := range []planting{
		{g: api.Graph{Name: "a", N: 1, Kind: api.EPlain, Parts: 1}, batch: 16, fan: 2},
		{g: api.Graph{Name: "abcdefghijklmnop", N: api.MaxVertices, Kind: api.ECounted, Parts: 512, Both: true}, batch: 17, fan: 256, edges: []api.Edge{{Src: api.MaxVertices - 1, Dst: 0}, {Dst: api.MaxVertices - 1, W: 1<<32 - 1}}},
		{g: api.Graph{Name: "_0z9", N: 512, Kind: api.EReal, Parts: 512}, batch: 65536, fan: 2},
		{g: api.Graph{Name: "0", N: 7, Kind: api.EReal, Parts: 7, Both: true}, batch: 16, fan: 3, edges: []api.Edge{{W: 0xff7fffff}, {W: 0x80000000}, {W: 1}}},
	} {
		c.v, c.p = disk(t), bag(t, 40*c.batch+8*c.g.Parts+4096)
		g, e := c.try()
		if e != api.OK || g.Edges != int64(len(c.edges)) || c.p.Used() != 0 {
			t.Errorf("P12.1: case %d: %d, %v", i, e, g)
		}
		if found, e := wheel.Find(c.v, c.g.Name); e != api.OK || found != g {
			t.Errorf("P12.2: case %d: %d, %v", i, e, found)
		}
	}
}

// P12.1: edges that are none of the graph, an error of the iterator in the midst; nothing is left.
func TestPlantOfWrongEdges(t *testing.T) {
	good := slices.Repeat([]api.Edge{{Src: 1, Dst: 2}, {Src: 4, Dst: 4}}, 40)
	for i, c := range []struct {
		kind  api.EdgeKind
		edge  api.Edge
		err   api.Errno
		wants api.Errno
	}{
		{api.EPlain, api.Edge{Src: 5}, api.OK, api.ErrVertex}, {api.EPlain, api.Edge{Dst: 5}, api.OK, api.ErrVertex}, {api.EPlain, api.Edge{Src: 1<<32 - 1, Dst: 1<<32 - 1}, api.OK, api.ErrVertex},
		{api.EPlain, api.Edge{Src: 5, W: 1}, api.OK, api.ErrVertex}, {api.EPlain, api.Edge{W: 1}, api.OK, api.ErrWeight}, {api.EReal, api.Edge{W: 0x7f800000}, api.OK, api.ErrWeight}, {api.EReal, api.Edge{W: 0xffc00001}, api.OK, api.ErrWeight},
		{api.EReal, api.Edge{Src: 9, W: 0x7f800000}, 500, 500}, {api.ECounted, api.Edge{}, api.ErrIO, api.ErrIO}, {api.ECounted, api.Edge{}, -3, -3},
	} {
		for _, at := range []int{0, 1, 79, 80} {
			d, p := disk(t), bag(t, 1<<16)
			put(t, d, "g-e-00001", "another's")
			was := image(t, d)
			asked := 0
			_, e := wheel.Plant(d, p, api.Graph{Name: "g", N: 5, Kind: c.kind, Parts: 2, Both: i%2 == 0}, 16, 2, func(yield func(api.Edge, api.Errno) bool) {
				for k := range 81 {
					asked++
					x, err := good[k%80], api.OK
					if k == at {
						x, err = c.edge, c.err
					}
					if !yield(x, err) {
						return
					}
				}
			})
			if e != c.wants || p.Used() != 0 || asked != at+1 {
				t.Errorf("P12.1: case %d: %d, want %d; %d edges asked for", i, e, c.wants, asked)
			}
			sameImage(t, "P12.1", d, was)
		}
	}
}

// P12.1: strays of the name are removed first; what is not of the graph's forms is never touched.
func TestPlantRemovesStrays(t *testing.T) {
	d := disk(t)
	strays := []string{"g-e-0000", "g-e-0002", "g-e-0511", "g-r-0001", "g.graph.new"}
	others := []string{"g", "g-e-000", "g-e-00000", "g-e-00x0", "g-e-0000.new", "g-r-", "g-s-0000000-0000", "g-u-0000", "g.run", "g.run.new", "gg-e-0000", "h-e-0000", "h.graph", "g.graph2", "g.graph.new.new", "-e-0000"}
	for _, name := range append(strays, others...) {
		put(t, d, name, "stray "+name)
	}
	g, e := wheel.Plant(d, bag(t, 1<<16), api.Graph{Name: "g", N: 9, Kind: 1, Parts: 1}, 16, 2, wheel.Feed([]api.Edge{{Src: 1, Dst: 2}}))
	if e != api.OK {
		t.Fatal(e)
	}
	want := append(slices.Clone(others), "g-e-0000", "g.graph")
	slices.Sort(want)
	if l := list(t, d); !slices.Equal(l, want) {
		t.Errorf("P12.1: %v, want %v", l, want)
	}
	for _, name := range others {
		if text(t, d, name) != "stray "+name {
			t.Errorf("P12.1: %s was touched", name)
		}
	}
	if f, e := wheel.Find(d, "g"); e != api.OK || f != g {
		t.Error("P12.2", e)
	}
}

// P12.1, P12.17: whatever fails, the graph is there, whole, or not, with nothing left of it; behind a publishing that failed nothing is removed.
func TestPlantThatFails(t *testing.T) {
	w := some()
	base := disk(t)
	put(t, base, "g-e-0009", "stray")
	for _, kind := range []int{api.FaultWrite, api.FaultTorn, api.FaultSync} {
		for at := int64(1); ; at++ {
			d := base.Copy()
			s := &spy{Volume: d}
			d.Plan(api.Fault{Op: d.Ops() + at, Kind: kind, N: 5})
			before := d.Ops()
			g, e := wheel.Plant(s, bag(t, 1<<16), w.g, w.batch, w.fan, wheel.Feed(w.edges))
			if d.Ops()-before < at {
				break
			}
			failed := len(s.log) >= int(at) && slices.ContainsFunc(s.log[:at], func(l string) bool { return strings.HasSuffix(l, " g.graph.new") && !strings.HasPrefix(l, "Remove") })
			now := list(t, d)
			switch {
			case e == api.OK && (g.Edges != 50 || len(now) != 7):
				t.Fatalf("P12.1: fault %d at %d: %v", kind, at, now)
			case e != api.OK && e != api.ErrIO:
				t.Fatalf("P12.1: fault %d at %d: %d", kind, at, e)
			case e != api.OK && failed && (len(now) < 6 || g != api.Graph{}):
				t.Fatalf("P12.1: fault %d at %d: removed behind a publishing: %v", kind, at, now)
			case e != api.OK && !failed && len(now) != 0:
				t.Fatalf("P12.1: fault %d at %d: %v is left", kind, at, now)
			}
			if again, f := wheel.Plant(d, bag(t, 1<<16), w.g, w.batch, w.fan, wheel.Feed(w.edges)); f != api.OK && f != api.ErrThere || f == api.OK && len(list(t, d)) != 7 || f == api.ErrThere && again != (api.Graph{}) {
				t.Fatalf("P12.1: behind fault %d at %d: %d", kind, at, f)
			}
		}
	}
}

// P12.1: a volume that can take so many bytes and files more is enough.
func TestPlantRoom(t *testing.T) {
	for seed := range uint64(60) {
		rnd := rand.New(rand.NewPCG(seed, 36))
		w := anyWorld(rnd, 60)
		if seed == 0 {
			w.g.N, w.g.Parts, w.g.Both = 2000, 512, true
		}
		each := int64(36)
		if w.g.Both {
			each = 72
		}
		d, _ := platter.New(each*int64(len(w.edges)) + 400*int64(w.g.Parts) + 131072)
		for i := range api.MaxVolFiles - 2*w.g.Parts - 3 {
			d.Create("other" + string(rune('a'+i%26)) + string(rune('a'+i/26%26)) + string(rune('a'+i/676)))
		}
		if _, e := wheel.Plant(d, bag(t, 40*16+8*w.g.Parts+4096), w.g, 16, 2, wheel.Feed(w.edges)); e != api.OK {
			t.Errorf("P12.1: world %d: %d", seed, e)
		}
	}
}

// P12.1: Feed tells the list in its order, as it is when it is gone over; it can be left and begun again.
func TestFeed(t *testing.T) {
	l := []api.Edge{{Src: 1}, {Src: 2}, {Src: 3}}
	seq := wheel.Feed(l)
	l[1].W = 9
	for range 2 {
		var got []api.Edge
		for x, e := range seq {
			if e != api.OK {
				t.Error(e)
			}
			got = append(got, x)
			if len(got) == 1 {
				l[2].W = 8
			}
		}
		if !slices.Equal(got, l) || got[2].W != 8 {
			t.Errorf("P12.1: %v", got)
		}
	}
	n := 0
	for range seq {
		n++
		break
	}
	for range wheel.Feed(nil) {
		n++
	}
	if n != 1 {
		t.Error("P12.1: left, empty:", n)
	}
}
