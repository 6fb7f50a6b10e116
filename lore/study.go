package lore

import "sluice/api"

// fault is the first thing that is wrong with a tree; a study gives up with it by panic.
type fault struct {
	code api.Errno
	hand int
	at   int
}

const ahead = -1 // of all handlers: the hand of a fault that is in none

// What a name may stand for beside the classes of declarations.
const (
	letName = api.LoreBoth + 1 + iota
	givenName
)

// symbol is what a name stands for.
type symbol struct {
	class int
	kind  api.WordKind
	at    int // the number of a const's or a param's declaration, the first word of a state, an agg or a ctl, a let's local, a given's instruction
}

// program is one that was studied and that nothing is wrong with.
type program struct {
	code   api.Code // without its handlers
	lanes  int
	params map[string]symbol
	values []uint64 // by the numbers of declarations: what consts and params stand for
	hands  [api.Hands][]step
}

// study looks for the first thing that is wrong, and makes out of a tree what is compiled and interpreted.
type study struct {
	program
	names map[string]symbol // declared, or seen
	lets  []string          // those that are seen
	aggs  int               // words that are taken
	ctls  int
	hand  int
	at    int // the number of the next node
	depth int // ifs and whiles that are open
}

// studied tells a program, or the first thing that is wrong with it (P17.1).
func studied(l api.Lore) (p *program, f fault) {
	defer func() {
		switch gave := recover().(type) {
		case nil:
		case fault:
			p, f = nil, gave
		default:
			p, f = nil, fault{code: api.ErrPanic}
		}
	}()
	if !isProgram(l) {
		return nil, fault{api.ErrTree, ahead, 0}
	}
	s := &study{names: map[string]symbol{}, hand: ahead}
	s.params = map[string]symbol{}
	s.code.MsgA = api.WordInt
	s.declare(l.Decls)
	for hand, steps := range l.Hands {
		s.hand, s.at = hand, 0
		if count(steps) > api.MaxLoreNodes {
			s.refuse(api.ErrMuch, 0)
		}
		s.hands[hand] = s.block(steps)
	}
	return &s.program, fault{}
}

func (s *study) refuse(code api.Errno, at int) { panic(fault{code, s.hand, at}) }

// count tells how many nodes statements have.
func count(steps []api.LoreStep) int {
	n := len(steps)
	for _, s := range steps {
		n += len(s.X) + len(s.Y) + count(s.Then) + count(s.Else)
	}
	return n
}

func (s *study) declare(decls []api.LoreDecl) {
	if len(decls) > api.MaxLoreDecls {
		s.refuse(api.ErrMuch, 0)
	}
	ways := [...]func(s *study, d api.LoreDecl) symbol{
		api.LoreConst: (*study).declareValue,
		api.LoreParam: (*study).declareValue,
		api.LoreState: (*study).declareState,
		api.LoreAgg:   (*study).declareAgg,
		api.LoreCtl:   (*study).declareCtl,
		api.LoreLane:  (*study).declareLane,
		api.LoreBoth:  (*study).declareBoth,
	}
	for at, d := range decls {
		s.at = at
		name := d.Name
		if d.Class == api.LoreBoth {
			name = classWords[api.LoreBoth] // no name, so nothing else is in its place
		}
		if _, declared := s.names[name]; declared {
			s.refuse(api.ErrDoubled, at)
		}
		s.names[name] = ways[d.Class](s, d)
		s.values = append(s.values, d.Word)
	}
	if s.code.Words == 0 {
		s.refuse(api.ErrUnknown, len(decls))
	}
}

func (s *study) declareValue(d api.LoreDecl) symbol {
	v := symbol{d.Class, d.Kind, s.at}
	if d.Class == api.LoreParam {
		s.params[d.Name] = v
	}
	return v
}

// words gives a declaration its words behind those that are taken.
func (s *study) words(d api.LoreDecl, kinds []api.WordKind, taken *int) symbol {
	width := 1
	if d.Kind == api.WordTally {
		width = api.TallyWords
	}
	first, above := *taken, *taken+width
	if above > len(kinds) { // so it is of a second tally, too
		s.refuse(api.ErrMuch, s.at)
	}
	for i := first; i < above; i++ {
		kinds[i] = d.Kind
	}
	*taken = above
	return symbol{d.Class, d.Kind, first}
}

func (s *study) declareState(d api.LoreDecl) symbol {
	return s.words(d, s.code.State[:], &s.code.Words)
}

func (s *study) declareAgg(d api.LoreDecl) symbol { return s.words(d, s.code.Agg[:], &s.aggs) }

func (s *study) declareCtl(d api.LoreDecl) symbol { return s.words(d, s.code.Ctl[:], &s.ctls) }

func (s *study) declareLane(d api.LoreDecl) symbol {
	if s.lanes == 2 {
		s.refuse(api.ErrMuch, s.at)
	}
	into, there := s.names[d.Into]
	if !there || into.class != api.LoreState {
		s.refuse(api.ErrUnknown, s.at)
	}
	fits := d.Kind == into.kind
	if d.Mon == api.MonTally {
		fits = d.Kind == api.WordReal && into.kind == api.WordTally
	}
	if !fits || s.lanes == 1 && s.code.Sink.A == into.at {
		s.refuse(api.ErrTyping, s.at)
	}
	if s.lanes == 0 {
		s.code.MsgA, s.code.Sink.A, s.code.Sink.MonA = d.Kind, into.at, d.Mon
	} else {
		s.code.MsgB, s.code.Sink.B, s.code.Sink.MonB = d.Kind, into.at, d.Mon
	}
	s.lanes++
	return symbol{d.Class, d.Kind, 0}
}

func (s *study) declareBoth(d api.LoreDecl) symbol {
	s.code.Both = true
	return symbol{class: d.Class}
}

// block studies statements; the lets among them are forgotten at its end.
func (s *study) block(steps []api.LoreStep) []step {
	seen := len(s.lets)
	var out []step
	for _, l := range steps {
		out = append(out, s.step(l))
	}
	for _, name := range s.lets[seen:] {
		delete(s.names, name)
	}
	s.lets = s.lets[:seen]
	return out
}

func (s *study) step(l api.LoreStep) step {
	at := s.at
	s.at++
	if !forms[l.Op].in.has(s.hand) {
		s.refuse(api.ErrUnknown, at)
	}
	ways := [...]func(s *study, at int, l api.LoreStep) symbol{
		api.LsLet:   (*study).lookLet,
		api.LsSet:   (*study).lookSet,
		api.LsPut:   (*study).lookSum,
		api.LsClear: (*study).lookSum,
		api.LsIf:    (*study).lookBlocks,
		api.LsWhile: (*study).lookBlocks,
		api.LsSend:  (*study).lookSend,
		api.LsGo:    nil,
	}
	out := step{op: l.Op}
	if look := ways[l.Op]; look != nil {
		out.into = look(s, at, l)
	}
	out.x, out.y = s.expression(l.X), s.expression(l.Y)
	s.fits(at, &out)
	if l.Op == api.LsLet {
		out.into.kind = out.x.top().kind
		s.names[l.Name] = out.into
		s.lets = append(s.lets, l.Name)
	}
	s.depth++
	out.then, out.other = s.block(l.Then), s.block(l.Else)
	s.depth--
	return out
}

func (s *study) lookLet(at int, l api.LoreStep) symbol {
	if _, there := s.names[l.Name]; there {
		s.refuse(api.ErrDoubled, at)
	}
	if len(s.lets) == api.MaxLoreLets {
		s.refuse(api.ErrMuch, at)
	}
	return symbol{class: letName, at: len(s.lets)}
}

func (s *study) lookSet(at int, l api.LoreStep) symbol {
	may := [...]hands{api.LoreState: inStart | inApply, api.LoreAgg: inFold, api.LoreCtl: inTurn, letName: everywhere, givenName: 0}
	v := s.names[l.Name] // of what is not there, or is no word, nothing may be set
	if !may[v.class].has(s.hand) || v.kind == api.WordTally {
		s.refuse(api.ErrUnknown, at)
	}
	return v
}

// lookSum is a put's, which may be to the aggregate's tally in fold, and a clear's.
func (s *study) lookSum(at int, l api.LoreStep) symbol {
	class := api.LoreState
	if s.hand == api.HandFold {
		class = api.LoreAgg
	}
	v := s.names[l.Name]
	if v.class != class || v.kind != api.WordTally {
		s.refuse(api.ErrUnknown, at)
	}
	return v
}

func (s *study) lookBlocks(at int, _ api.LoreStep) symbol {
	if s.depth == api.MaxLoreDepth {
		s.refuse(api.ErrMuch, at)
	}
	return symbol{}
}

func (s *study) lookSend(at int, l api.LoreStep) symbol {
	words := 1
	if len(l.Y) > 0 {
		words = 2
	}
	if words != s.lanes {
		s.refuse(api.ErrLane, at)
	}
	return symbol{}
}

// fits refuses a statement whose expressions have not the kinds that it asks for.
func (s *study) fits(at int, out *step) {
	asked := [...]api.WordKind{
		api.LsSet:   out.into.kind,
		api.LsPut:   api.WordReal,
		api.LsIf:    api.WordBool,
		api.LsWhile: api.WordBool,
		api.LsSend:  s.code.MsgA,
		api.LsGo:    api.WordNone,
	}[out.op]
	if asked != api.WordNone && out.x.top().kind != asked || out.y != nil && out.y.top().kind != s.code.MsgB {
		s.refuse(api.ErrTyping, at)
	}
}
