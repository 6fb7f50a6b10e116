package wheel_test

import (
	"iter"
	"maps"
	"math/rand/v2"
	"slices"
	"strings"
	"testing"

	"sluice/api"
	"sluice/platter"
	"sluice/purse"
	"sluice/reel"
	"sluice/tally"
	"sluice/wheel"
)

// mix is a program all of whose answers are made by stirring its arguments and a seed: whatever is handed to it wrongly shows in the result.
type mix struct {
	seed   uint64
	words  int
	both   bool
	sink   api.Sink
	rounds int    // done behind so many; 0: never
	every  bool   // each edge sends
	trap   int    // the phase that answers errors: 1 Start, 2 Scatter, 3 Apply, 4 Fold, 5 Turn
	odds   uint64 // about how many calls of that phase go for one with an error
}

func stir(xs ...uint64) uint64 {
	h := uint64(14695981039346656037)
	for _, x := range xs {
		h = (h ^ x) * 0x9e3779b97f4a7c15
		h ^= h >> 29
	}
	return h
}

func (m mix) state(xs ...uint64) (s api.State) {
	h := stir(append(xs, m.seed)...)
	for i := range s {
		s[i] = stir(h, uint64(i))
	}
	return s
}

// fault tells an error, now and then; some of their numbers are below 0.
func (m mix) fault(phase int, xs ...uint64) api.Errno {
	if m.trap != phase {
		return api.OK
	}
	h := stir(append(xs, m.seed, 77)...)
	if h%m.odds != 0 {
		return api.OK
	}
	if e := api.Errno(h/m.odds%90) - 30; e != api.OK {
		return e
	}
	return 61
}

func (m mix) Words() int     { return m.words }
func (m mix) Both() bool     { return m.both }
func (m mix) Sink() api.Sink { return m.sink }

func (m mix) Start(v uint32, d api.Degrees) (api.State, api.Errno) {
	return m.state(1, uint64(v), d.Out, d.In), m.fault(1, uint64(v))
}

func (m mix) Scatter(c api.Ctl, s api.State, e api.Edge, back bool) (uint64, uint64, bool, api.Errno) {
	way := uint64(2)
	if back {
		way = 3
	}
	h := stir(append(append(c[:], s[:]...), way, uint64(e.Src), uint64(e.Dst), uint64(e.W), m.seed)...)
	return stir(h, 1), stir(h, 2), m.every || h%3 != 0, m.fault(2, h)
}

func (m mix) Apply(c api.Ctl, agg api.State, v uint32, s api.State) (api.State, bool, api.Errno) {
	h := stir(append(append(append(c[:], s[:]...), agg[:]...), uint64(v))...)
	return m.state(4, h), h%5 < 2, m.fault(3, h)
}

func (m mix) Fold(c api.Ctl, agg api.State, v uint32, s api.State) (api.State, api.Errno) {
	h := stir(append(append(append(c[:], s[:]...), agg[:]...), uint64(v))...)
	return m.state(5, h), m.fault(4, h)
}

func (m mix) Turn(c api.Ctl, agg api.State, changed uint64, round int) (api.Ctl, bool, api.Errno) {
	h := stir(append(append(c[:], agg[:]...), changed, uint64(round))...)
	s := m.state(6, h)
	return api.Ctl(s[:4]), round == m.rounds, m.fault(5, h)
}

// easy is a program with nothing special: four words, three rounds.
func easy(seed uint64) mix {
	return mix{seed: seed, words: 4, sink: api.Sink{A: 1, MonA: api.MonMin, B: 3, MonB: api.MonAdd}, rounds: 3}
}

// anySink tells a sink that fits so many words.
func anySink(rnd *rand.Rand, words int) api.Sink {
	for {
		s := api.Sink{A: rnd.IntN(words), MonA: api.Monoid(rnd.IntN(10)), B: rnd.IntN(words), MonB: api.Monoid(rnd.IntN(10))}
		if fitsSink(s, words) {
			return s
		}
	}
}

// fitsSink is 0.4's sentence, word by word.
func fitsSink(s api.Sink, words int) bool {
	used := map[int]int{}
	for _, half := range []struct {
		m  api.Monoid
		at int
	}{{s.MonA, s.A}, {s.MonB, s.B}} {
		n := 1
		if half.m == api.MonNone {
			n = 0
		} else if half.m == api.MonTally {
			n = 6
		}
		for i := range n {
			if half.at < 0 || half.at+i >= words {
				return false
			}
			used[half.at+i]++
		}
	}
	for _, n := range used {
		if n > 1 {
			return false
		}
	}
	return true
}

// mon is 0.4's table.
func mon(m api.Monoid, s *api.State, at int, y uint64) {
	switch m {
	case api.MonMin:
		s[at] = min(s[at], y)
	case api.MonMax:
		s[at] = max(s[at], y)
	case api.MonMinInt:
		s[at] = uint64(min(int64(s[at]), int64(y)))
	case api.MonMaxInt:
		s[at] = uint64(max(int64(s[at]), int64(y)))
	case api.MonAdd:
		s[at] += y
	case api.MonAnd:
		s[at] &= y
	case api.MonOr:
		s[at] |= y
	case api.MonNibbles:
		var out uint64
		for i := 0; i < 64; i += 4 {
			out |= max(s[at]>>i&15, y>>i&15) << i
		}
		s[at] = out
	case api.MonTally:
		sum := tally.Put(tally.Sum(s[at:at+6]), uint32(y))
		copy(s[at:], sum[:])
	}
}

// sketch is chapter 0.3, sentence by sentence: a second reading of it, without parts, buffers and workers.
type sketch struct {
	n      uint32
	both   bool // the graph has back edges
	edges  []api.Edge
	prog   api.Program
	states []api.State
	ctl    api.Ctl
	agg    api.State
	stats  api.Stats
}

func leastOf(errs []api.Errno) api.Errno {
	errs = slices.DeleteFunc(errs, func(e api.Errno) bool { return e == api.OK })
	if len(errs) == 0 {
		return api.OK
	}
	return slices.Min(errs)
}

func (k *sketch) keep(s api.State) api.State {
	for i := k.prog.Words(); i < len(s); i++ {
		s[i] = 0
	}
	return s
}

func (k *sketch) fold() api.Errno {
	var errs []api.Errno
	k.agg = api.State{}
	for v, s := range k.states {
		next, e := k.prog.Fold(k.ctl, k.agg, uint32(v), s)
		if errs = append(errs, e); e == api.OK {
			k.agg = next
		}
	}
	return leastOf(errs)
}

func (k *sketch) start() api.Errno {
	var errs []api.Errno
	for v := range k.n {
		var d api.Degrees
		for _, e := range k.edges {
			if e.Src == v {
				d.Out++
			}
			if e.Dst == v && k.both {
				d.In++
			}
		}
		s, e := k.prog.Start(v, d)
		k.states, errs = append(k.states, k.keep(s)), append(errs, e)
	}
	if e := leastOf(errs); e != api.OK {
		return e
	}
	return k.fold()
}

func (k *sketch) round(r int) (bool, api.Errno) {
	var errs []api.Errno
	var sent []api.Update
	for _, e := range k.edges {
		a, b, send, err := k.prog.Scatter(k.ctl, k.states[e.Src], e, false)
		errs = append(errs, err)
		if k.stats.Edges++; send {
			sent = append(sent, api.Update{To: e.Dst, A: a, B: b})
		}
		if !k.prog.Both() {
			continue
		}
		a, b, send, err = k.prog.Scatter(k.ctl, k.states[e.Dst], e, true)
		errs = append(errs, err)
		if k.stats.Edges++; send {
			sent = append(sent, api.Update{To: e.Src, A: a, B: b})
		}
	}
	if e := leastOf(errs); e != api.OK {
		return false, e
	}
	for _, u := range sent {
		mon(k.prog.Sink().MonA, &k.states[u.To], k.prog.Sink().A, u.A)
		mon(k.prog.Sink().MonB, &k.states[u.To], k.prog.Sink().B, u.B)
	}
	changed := uint64(0)
	for v := range k.n {
		s, ch, err := k.prog.Apply(k.ctl, k.agg, v, k.states[v])
		if errs = append(errs, err); ch {
			changed++
		}
		k.states[v] = k.keep(s)
	}
	if e := leastOf(errs); e != api.OK {
		return false, e
	}
	if e := k.fold(); e != api.OK {
		return false, e
	}
	k.stats.Rounds, k.stats.Updates, k.stats.Changed = r, k.stats.Updates+uint64(len(sent)), k.stats.Changed+changed
	next, done, err := k.prog.Turn(k.ctl, k.agg, changed, r)
	k.ctl = next
	return done, err
}

// sketched tells what a run must come to.
func sketched(n uint32, both bool, edges []api.Edge, prog api.Program, most int) ([]api.State, api.Stats, api.Errno) {
	k := &sketch{n: n, both: both, edges: edges, prog: prog}
	if e := k.start(); e != api.OK {
		return nil, api.Stats{}, e
	}
	for r := 1; r <= most; r++ {
		done, e := k.round(r)
		if e != api.OK {
			return nil, api.Stats{}, e
		}
		if done {
			return k.states, k.stats, api.OK
		}
	}
	return nil, api.Stats{}, api.ErrCap
}

// world is a graph with a program and options.
type world struct {
	g     api.Graph
	edges []api.Edge
	batch int // of Plant
	fan   int
	prog  mix
	o     api.Options
}

// anyWeight tells a third field that an edge of the kind may have.
func anyWeight(rnd *rand.Rand, kind api.EdgeKind) uint32 {
	switch kind {
	case api.EPlain:
		return 0
	case api.EReal:
		return rnd.Uint32() &^ (1 << 30)
	}
	return rnd.Uint32()
}

// anyWorld tells a small world; most is how many vertices it has at most.
func anyWorld(rnd *rand.Rand, most int) world {
	n := 1 + rnd.IntN(most)
	w := world{batch: 16 + rnd.IntN(20), fan: 2 + rnd.IntN(4)}
	w.g = api.Graph{Name: "g", N: uint32(n), Kind: api.EdgeKind(1 + rnd.IntN(3)), Parts: 1 + rnd.IntN(min(n, 6)), Both: rnd.IntN(2) == 0}
	for range rnd.IntN(3*n + 2) {
		w.edges = append(w.edges, api.Edge{Src: rnd.Uint32N(w.g.N), Dst: rnd.Uint32N(w.g.N), W: anyWeight(rnd, w.g.Kind)})
	}
	if len(w.edges) > 1 {
		w.edges = append(w.edges, w.edges[0], api.Edge{Src: w.edges[1].Src, Dst: w.edges[1].Src, W: w.edges[1].W})
	}
	words := 1 + rnd.IntN(8)
	w.prog = mix{seed: rnd.Uint64(), words: words, both: w.g.Both && rnd.IntN(2) == 0, sink: anySink(rnd, words), rounds: 1 + rnd.IntN(5), every: rnd.IntN(4) == 0}
	w.o = anyOptions(rnd)
	return w
}

func anyOptions(rnd *rand.Rand) api.Options {
	return api.Options{Run: "r", Batch: 16 + rnd.IntN(20), Fan: 2 + rnd.IntN(4), Workers: 1 + rnd.IntN(4), Cap: 6 + rnd.IntN(4), Every: rnd.IntN(4)}
}

func disk(t *testing.T, plan ...api.Fault) *platter.Disk {
	t.Helper()
	d, e := platter.New(1<<26, plan...)
	if e != api.OK {
		t.Fatal(e)
	}
	return d
}

func bag(t *testing.T, words int) *purse.Purse {
	t.Helper()
	p, e := purse.New(words)
	if e != api.OK {
		t.Fatal(e)
	}
	return p
}

// plant lays a world's graph down.
func (w world) plant(t *testing.T, v api.Volume) api.Graph {
	t.Helper()
	g, e := wheel.Plant(v, bag(t, 1<<20), w.g, w.batch, w.fan, wheel.Feed(w.edges))
	if e != api.OK {
		t.Fatal("Plant:", e)
	}
	return g
}

// planted tells a disk with a world's graph on it.
func planted(t *testing.T, w world) (*platter.Disk, api.Graph) {
	t.Helper()
	d := disk(t)
	return d, w.plant(t, d)
}

// some tells a world that is the same each time: ten vertices in three parts, with back edges.
func some() world {
	w := world{g: api.Graph{Name: "g", N: 10, Kind: api.ECounted, Parts: 3, Both: true}, batch: 16, fan: 2, prog: easy(5), o: api.Options{Run: "r", Batch: 16, Fan: 2, Workers: 2, Cap: 9}}
	rnd := rand.New(rand.NewPCG(1, 2))
	for range 50 {
		w.edges = append(w.edges, api.Edge{Src: rnd.Uint32N(10), Dst: rnd.Uint32N(10), W: rnd.Uint32()})
	}
	return w
}

// list tells the files of a volume.
func list(t *testing.T, d *platter.Disk) []string {
	t.Helper()
	l, e := d.List()
	if e != api.OK {
		t.Fatal("List:", e)
	}
	return l
}

// put lays a small file down.
func put(t *testing.T, v api.Volume, name, text string) {
	t.Helper()
	v.Remove(name)
	if e := v.Create(name); e != api.OK {
		t.Fatal(e)
	}
	if e := v.Append(name, []byte(text)); e != api.OK {
		t.Fatal(e)
	}
}

// text reads a small file.
func text(t *testing.T, v api.Volume, name string) string {
	t.Helper()
	b := make([]byte, 1<<18)
	n, e := reel.Fetch(v, name, b)
	if e != api.OK {
		t.Fatal(name, e)
	}
	return string(b[:n])
}

// result reads a run's states to their end.
func result(t *testing.T, v api.Volume, run string) ([]api.State, api.Errno) {
	t.Helper()
	p := bag(t, 16*16+4096)
	r, e := wheel.States(v, p, run, 16)
	if e != api.OK {
		return nil, e
	}
	var l []api.State
	for v, s := range r.All() {
		if int(v) != len(l) {
			t.Fatalf("P12.10: vertex %d behind %d", v, len(l)-1)
		}
		l = append(l, s)
	}
	e = r.Code()
	if r.Close() != api.OK || p.Used() != 0 {
		t.Fatal("P12.10: Close")
	}
	return l, e
}

// spy is a volume that writes down what is asked of it, and refuses what it is told to refuse.
type spy struct {
	api.Volume
	log    []string
	refuse func(op, name string) api.Errno
}

func (s *spy) asked(op, name string) api.Errno {
	s.log = append(s.log, op+" "+name)
	if s.refuse == nil {
		return api.OK
	}
	return s.refuse(op, name)
}

func (s *spy) Create(name string) api.Errno {
	if e := s.asked("Create", name); e != api.OK {
		return e
	}
	return s.Volume.Create(name)
}

func (s *spy) Append(name string, data []byte) api.Errno {
	if e := s.asked("Append", name); e != api.OK {
		return e
	}
	return s.Volume.Append(name, data)
}

func (s *spy) ReadAt(name string, at int64, into []byte) (int, api.Errno) {
	if e := s.asked("ReadAt", name); e != api.OK {
		return 0, e
	}
	return s.Volume.ReadAt(name, at, into)
}

func (s *spy) Size(name string) (int64, api.Errno) {
	if e := s.asked("Size", name); e != api.OK {
		return 0, e
	}
	return s.Volume.Size(name)
}

func (s *spy) Sync(name string) api.Errno {
	if e := s.asked("Sync", name); e != api.OK {
		return e
	}
	return s.Volume.Sync(name)
}

func (s *spy) SyncDir() api.Errno {
	if e := s.asked("SyncDir", ""); e != api.OK {
		return e
	}
	return s.Volume.SyncDir()
}

func (s *spy) Rename(from, to string) api.Errno {
	if e := s.asked("Rename", from+" "+to); e != api.OK {
		return e
	}
	return s.Volume.Rename(from, to)
}

func (s *spy) Remove(name string) api.Errno {
	if e := s.asked("Remove", name); e != api.OK {
		return e
	}
	return s.Volume.Remove(name)
}

func (s *spy) List() ([]string, api.Errno) {
	if e := s.asked("List", ""); e != api.OK {
		return nil, e
	}
	return s.Volume.List()
}

// refusing tells a spy over a volume that refuses the operations that begin with a text.
func refusing(v api.Volume, begin string, e api.Errno) *spy {
	return &spy{Volume: v, refuse: func(op, name string) api.Errno {
		if strings.HasPrefix(op+" "+name, begin) {
			return e
		}
		return api.OK
	}}
}

// behind tells edges, and then an error.
func behind(edges []api.Edge, e api.Errno) iter.Seq2[api.Edge, api.Errno] {
	return func(yield func(api.Edge, api.Errno) bool) {
		for _, x := range edges {
			if !yield(x, api.OK) {
				return
			}
		}
		yield(api.Edge{}, e)
	}
}

// image tells all that lies on a disk.
func image(t *testing.T, d *platter.Disk) map[string]string {
	t.Helper()
	all := map[string]string{}
	for _, name := range list(t, d) {
		size, _ := d.Size(name)
		b := make([]byte, size)
		d.ReadAt(name, 0, b)
		all[name] = string(b)
	}
	return all
}

func sameImage(t *testing.T, what string, d *platter.Disk, was map[string]string) {
	t.Helper()
	if now := image(t, d); !maps.Equal(now, was) {
		t.Errorf("%s: the volume has changed: %v, was %v", what, slices.Sorted(maps.Keys(now)), slices.Sorted(maps.Keys(was)))
	}
}
