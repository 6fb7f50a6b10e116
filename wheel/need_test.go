package wheel_test

import (
	"math/rand/v2"
	"strconv"
	"testing"

	"sluice/api"
	"sluice/platter"
	"sluice/purse"
	"sluice/wheel"
)

// P12.4, P12.5: the formulas, and sizes that may not be.
func TestNeedAndRoom(t *testing.T) {
	g := api.Graph{Name: "g", N: 10, Kind: api.EPlain, Parts: 3, Edges: 7}
	o := api.Options{Run: "r", Batch: 20, Fan: 2, Workers: 1, Cap: 1}
	check := func(g api.Graph, o api.Options, words, least, enough int, room int64) {
		t.Helper()
		a, b := wheel.Need(g, o, words)
		if c := wheel.Room(g, o, words); a != least || b != enough || c != room {
			t.Errorf("P12.4, P12.5: %v %v %d: %d, %d, %d", g, o, words, a, b, c)
		}
	}
	check(g, o, 3, 4*3+20, 20*4+40*20+8*3+4096, 3*10*48+44*7+1500+262144)
	both := g
	both.Both = true
	check(both, o, 8, 4*8+20, 20*4+40*20+8*3+4096, 3*10*88+44*14+1500+262144)
	great := api.Graph{Name: "abcdefghijklmnop", N: api.MaxVertices, Kind: api.EReal, Parts: 512, Edges: api.MaxEdges, Both: true}
	most := api.Options{Run: "abcdefghijklmnop", Batch: 65536, Fan: 256, Workers: 16, Cap: 1 << 20, Every: 1 << 20}
	check(great, most, 8, 1<<25+65536, 20<<22+40*65536+8*512+4096, 3*(1<<31-1)*88+88*(1<<31-1)+500*512+262144)
	check(api.Graph{Name: "g", N: 1, Kind: 1, Parts: 1}, api.Options{Run: "0", Batch: 16, Fan: 2, Workers: 1, Cap: 1}, 1, 17, 20+640+8+4096, 3*32+500+262144)
	for _, spoil := range []func(g *api.Graph, o *api.Options, words *int){
		func(g *api.Graph, o *api.Options, words *int) { g.Name = "" },
		func(g *api.Graph, o *api.Options, words *int) { g.Name = "abcdefghijklmnopq" },
		func(g *api.Graph, o *api.Options, words *int) { g.N = 0 },
		func(g *api.Graph, o *api.Options, words *int) { g.N = 1 << 31 },
		func(g *api.Graph, o *api.Options, words *int) { g.Kind = 0 },
		func(g *api.Graph, o *api.Options, words *int) { g.Kind = 4 },
		func(g *api.Graph, o *api.Options, words *int) { g.Parts = 0 },
		func(g *api.Graph, o *api.Options, words *int) { g.Parts = 11 },
		func(g *api.Graph, o *api.Options, words *int) { g.N, g.Parts = 1000, 513 },
		func(g *api.Graph, o *api.Options, words *int) { g.Edges = -1 },
		func(g *api.Graph, o *api.Options, words *int) { g.Edges = 1 << 31 },
		func(g *api.Graph, o *api.Options, words *int) { o.Run = "R" },
		func(g *api.Graph, o *api.Options, words *int) { o.Batch = 15 },
		func(g *api.Graph, o *api.Options, words *int) { o.Batch = 65537 },
		func(g *api.Graph, o *api.Options, words *int) { o.Fan = 1 },
		func(g *api.Graph, o *api.Options, words *int) { o.Fan = 257 },
		func(g *api.Graph, o *api.Options, words *int) { o.Workers = 0 },
		func(g *api.Graph, o *api.Options, words *int) { o.Workers = 17 },
		func(g *api.Graph, o *api.Options, words *int) { o.Cap = 0 },
		func(g *api.Graph, o *api.Options, words *int) { o.Cap = 1<<20 + 1 },
		func(g *api.Graph, o *api.Options, words *int) { o.Every = -1 },
		func(g *api.Graph, o *api.Options, words *int) { o.Every = 1<<20 + 1 },
		func(g *api.Graph, o *api.Options, words *int) { *words = 0 },
		func(g *api.Graph, o *api.Options, words *int) { *words = 9 },
	} {
		g, o, words := g, o, 3
		spoil(&g, &o, &words)
		check(g, o, words, 0, 0, 0)
	}
}

// P12.4: with fewer words left than least a Run or Resume is refused; with enough it never is, whatever the batch of the planting; of States and Edges likewise (P12.10, P12.18).
func TestPurses(t *testing.T) {
	for seed := range uint64(60) {
		rnd := rand.New(rand.NewPCG(seed, 4))
		w := anyWorld(rnd, 60)
		w.batch = []int{16, 65536, 1000}[seed%3]
		if seed == 1 {
			w.g.N, w.g.Parts = 600, 512
		}
		d, g := planted(t, w)
		w.o.Every, w.o.Cap = 1, 9
		least, enough := wheel.Need(g, w.o, w.prog.words)
		left := func(words int) *purse.Purse {
			p := bag(t, words+100)
			purse.Take[uint64](p, 100)
			return p
		}
		for _, words := range []int{0, least - 1} {
			p := left(words)
			if _, e := wheel.Run(d, p, g, w.prog, 1, w.o); e != api.ErrSpent || p.Used() != 100 {
				t.Fatalf("P12.4: %d words: %d", words, e)
			}
		}
		first := w.o
		first.Cap = 1
		p := left(enough)
		_, e := wheel.Run(d, p, g, w.prog, 1, first)
		if e != api.OK && e != api.ErrCap || p.Used() != 100 {
			t.Fatalf("P12.4: %d", e)
		}
		if e == api.ErrCap {
			if _, e := wheel.Resume(d, left(least-1), g, w.prog, 1, w.o); e != api.ErrSpent {
				t.Fatalf("P12.4: %d", e)
			}
			p := left(enough)
			if _, e := wheel.Resume(d, p, g, w.prog, 1, w.o); e != api.OK || p.Used() != 100 {
				t.Fatalf("P12.4: %d", e)
			}
		}
		for _, batch := range []int{16, 100} {
			p := left(16*batch + 4096)
			r, e := wheel.States(d, p, "r", batch)
			s, f := wheel.Edges(d, left(16*batch+4096), "g", batch)
			if e != api.OK || f != api.OK || r.Close() != api.OK || s.Close() != api.OK || p.Used() != 100 {
				t.Errorf("P12.10, P12.18: %d, %d", e, f)
			}
		}
		if _, e := wheel.States(d, left(0), "r", 16); e != api.ErrSpent {
			t.Errorf("P12.10: %d", e)
		}
		if _, e := wheel.Edges(d, left(0), "g", 16); e != api.ErrSpent {
			t.Errorf("P12.18: %d", e)
		}
	}
}

// P12.4: between least and enough: refused, or as with enough; nothing is out behind it.
func TestPursesBetween(t *testing.T) {
	w := some()
	d, g := planted(t, w)
	least, enough := wheel.Need(g, w.o, w.prog.words)
	refused := 0
	for words := least; words <= enough; words += 97 {
		d, p := d.Copy(), bag(t, words)
		_, e := wheel.Run(d, p, g, w.prog, 1, w.o)
		if e == api.ErrSpent {
			refused++
		}
		if e != api.OK && e != api.ErrSpent || p.Used() != 0 || e == api.ErrSpent && len(list(t, d)) != 7 {
			t.Fatalf("P12.4: %d words: %d", words, e)
		}
	}
	if refused == 0 {
		t.Error("a purse of least words holds all buffers?")
	}
	p := bag(t, enough)
	p.Close()
	if _, e := wheel.Run(d, p, g, w.prog, 1, w.o); e != api.ErrClosed {
		t.Errorf("P12.6: a closed purse: %d", e)
	}
}

// P12.5: a volume with so much room, and so many names, refuses nothing, though each edge sends and each batch has edges to all parts.
func TestRoomIsEnough(t *testing.T) {
	for seed := range uint64(80) {
		rnd := rand.New(rand.NewPCG(seed, 5))
		w := anyWorld(rnd, 60)
		w.o.Batch, w.prog.every, w.prog.rounds = 16, true, 5
		w.prog.both = w.g.Both
		switch seed {
		case 0:
			w.g.N, w.g.Parts = 900, 512
		case 1:
			w.g.Parts, w.o.Every = int(w.g.N), 1
		case 2:
			for range 3000 {
				w.edges = append(w.edges, api.Edge{Src: rnd.Uint32N(w.g.N), Dst: rnd.Uint32N(w.g.N), W: anyWeight(rnd, w.g.Kind)})
			}
		}
		d, _ := platter.New(1 << 24)
		g := w.plant(t, d)
		used, files := d.Used()
		room := wheel.Room(g, w.o, w.prog.words)
		tight, _ := platter.New(used + room)
		for name, text := range image(t, d) {
			tight.Create(name)
			tight.Append(name, []byte(text))
		}
		for i := range api.MaxVolFiles - files - 5*g.Parts - 8 {
			tight.Create("other" + strconv.Itoa(i))
		}
		w.o.Cap = 2
		_, e := wheel.Run(tight, bag(t, 1<<20), g, w.prog, 1, w.o)
		if e != api.ErrCap {
			t.Fatalf("P12.5: world %d: %d", seed, e)
		}
		w.o.Cap = 9
		if _, e = wheel.Resume(tight, bag(t, 1<<20), g, w.prog, 1, w.o); e == api.ErrRun {
			_, e = wheel.Run(tight, bag(t, 1<<20), g, w.prog, 1, w.o)
		}
		if e != api.OK {
			t.Fatalf("P12.5: world %d: %d", seed, e)
		}
	}
}
