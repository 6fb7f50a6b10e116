package lore_test

import (
	"math/rand/v2"
	"regexp"
	"slices"
	"strings"
	"testing"

	"sluice/api"
	"sluice/lore"
)

// ebnf is the chapter's grammar, each function with its operands.
const ebnf = `
program  = 'program' NAME ';' { decl } { 'on' HANDLER block }
decl     = 'const' NAME '=' [ '-' ] ( INT | REAL ) ';'  |  'const' NAME '=' ( 'true' | 'false' ) ';' | 'param' NAME ( 'int' | 'real' | 'bool' ) ';' | ( 'state' | 'agg' ) NAME ( 'int' | 'real' | 'bool' | 'tally' ) ';' | 'ctl' NAME ( 'int' | 'real' | 'bool' ) ';' | 'lane' NAME ( 'int' | 'real' | 'bool' ) MONOID 'into' NAME ';' | 'both' ';'
HANDLER  = 'start' | 'scatter' | 'apply' | 'fold' | 'turn'
MONOID   = 'min' | 'max' | 'minint' | 'maxint' | 'add' | 'and' | 'or' | 'nibbles' | 'tally'
block    = '{' { step } '}'
step     = 'let' NAME '=' expr ';'  |  NAME '=' expr ';'  |  NAME '+=' expr ';'  |  'clear' NAME ';' | if  |  'while' expr block | 'send' expr [ ',' expr ] ';'  |  ( 'skip' | 'change' | 'keep' | 'done' | 'go' ) ';'
if       = 'if' expr block [ 'else' ( block | if ) ]
expr     = and { 'or' and }
and      = not { 'and' not }
not      = 'not' not | test
test     = sum [ ( '==' | '!=' | '<' | '<=' | '>' | '>=' ) sum ]
sum      = term { ( '+' | '-' ) term }
term     = unary { ( '*' | '/' | '%' ) unary }
unary    = '-' unary | primary
primary  = INT | REAL | 'true' | 'false' | NAME | GIVEN | call | '(' expr ')'
GIVEN    = 'vertex' | 'outdeg' | 'indeg' | 'src' | 'dst' | 'weight' | 'realweight' | 'back' | 'changed' | 'round'
call     = ONE '(' expr ')' | TWO '(' expr ',' expr ')' | 'when' '(' expr ',' expr ',' expr ')'
ONE      = 'abs' | 'real' | 'int' | 'sqrt' | 'total'
TWO      = 'min' | 'max' | 'band' | 'bor' | 'bxor' | 'shl' | 'shr'
`

// rules are a grammar without brackets: by the name of each rule, the rows of what it may be.
type rules map[string][][]string

// readRules reads the chapter's grammar.
func readRules(text string) rules {
	g := rules{}
	for line := range strings.Lines(text) {
		words := strings.Fields(line)
		if len(words) > 0 {
			rest := g.choices(words[0], words[2:])
			if len(rest) > 0 {
				panic("a bracket in " + line)
			}
		}
	}
	return g
}

// choices reads rows up to a closing bracket; what stands in brackets is a rule of its own.
func (g rules) choices(name string, words []string) []string {
	row := []string{}
	for len(words) > 0 && !slices.Contains([]string{")", "]", "}"}, words[0]) {
		word := words[0]
		words = words[1:]
		switch word {
		case "|":
			g[name] = append(g[name], row)
			row = []string{}
		case "(", "[", "{":
			inner := name + "." + word + string(rune('a'+len(g)))
			g[inner] = nil
			words = g.choices(inner, words)[1:]
			if word == "{" {
				for i, r := range g[inner] {
					g[inner][i] = append(slices.Clone(r), inner)
				}
			}
			if word != "(" {
				g[inner] = append(g[inner], nil)
			}
			row = append(row, inner)
		default:
			row = append(row, word)
		}
	}
	g[name] = append(g[name], row)
	return words
}

// item is a row of which some was read, and the token at which it began.
type item struct {
	row  *ready
	done int
	from int
}

// ready is a row whose rules were looked up.
type ready struct {
	rule string
	want []symbol
}

type symbol struct {
	name string
	rows []*ready // none of a token
}

// chart has, ahead of each token, all ways that are open there (Earley's algorithm). It is kept for the next text, which may begin with the same tokens.
type chart struct {
	whole  []*ready // of a program
	tokens []string
	sets   [][]item
	known  []map[item]bool
}

func newChart() *chart {
	c := &chart{whole: readRules(ebnf).rows()["program"]}
	c.grow()
	c.begin(0, c.whole)
	c.finish(0)
	return c
}

// rows looks all rules up.
func (g rules) rows() map[string][]*ready {
	all := map[string][]*ready{}
	for name, rows := range g {
		for range rows {
			all[name] = append(all[name], &ready{rule: name})
		}
	}
	for name, rows := range g {
		for i, row := range rows {
			for _, word := range row {
				all[name][i].want = append(all[name][i].want, symbol{word, all[word]})
			}
		}
	}
	return all
}

// next is what comes in a row; nothing at its end.
func (x item) next() symbol {
	if x.done == len(x.row.want) {
		return symbol{}
	}
	return x.row.want[x.done]
}

func (c *chart) grow() {
	c.sets = append(c.sets, nil)
	c.known = append(c.known, map[item]bool{})
}

func (c *chart) add(at int, x item) {
	if !c.known[at][x] {
		c.known[at][x] = true
		c.sets[at] = append(c.sets[at], x)
	}
}

func (c *chart) begin(at int, rows []*ready) {
	for _, row := range rows {
		c.add(at, item{row, 0, at})
	}
}

// finish finds all that is open ahead of a token, till nothing is new: an empty rule may be done before it is asked for.
func (c *chart) finish(at int) {
	for size := -1; len(c.sets[at]) > size; {
		size = len(c.sets[at])
		for i := 0; i < len(c.sets[at]); i++ {
			x := c.sets[at][i]
			if x.next().name != "" {
				c.begin(at, x.next().rows)
				continue
			}
			for _, y := range c.sets[x.from] {
				if y.next().name == x.row.rule {
					c.add(at, item{y.row, y.done + 1, y.from})
				}
			}
		}
	}
}

// pass goes beyond a token.
func (c *chart) pass(token string) {
	at := len(c.tokens)
	c.tokens = append(c.tokens, token)
	c.grow()
	for _, x := range c.sets[at] {
		if x.next().name == token {
			c.add(at+1, item{x.row, x.done + 1, x.from})
		}
	}
	c.finish(at + 1)
}

// firstWrong tells the first token with which no text goes on, the end counting as one; -1, if there is none.
func (c *chart) firstWrong(tokens []string) int {
	alike := 0
	for alike < min(len(tokens), len(c.tokens)) && tokens[alike] == c.tokens[alike] {
		alike++
	}
	c.tokens, c.sets, c.known = c.tokens[:alike], c.sets[:alike+1], c.known[:alike+1]
	for at, token := range tokens {
		if at >= alike {
			c.pass(token)
		}
		if len(c.sets[at+1]) == 0 {
			return at
		}
	}
	for _, x := range c.sets[len(tokens)] {
		if x.row == c.whole[0] && x.next().name == "" {
			return -1
		}
	}
	return len(tokens)
}

// piece finds tokens in a text that has no wrong ones.
var piece = regexp.MustCompile(`//[^\n]*|[ \t\r\n]+|[A-Za-z_][A-Za-z0-9_]*|[0-9]+\.[0-9]+([eE][+-]?[0-9]+)?|[0-9]+|[=+!<>]=|[{}(),;=+*/%<>-]`)

// cut tells a text's tokens as the grammar names them, and where each begins; the end too.
func cut(text string) (tokens []string, texts []string, places []api.LorePlace) {
	line, start, end := 1, 0, 0
	place := func(at int) api.LorePlace { return api.LorePlace{Line: line, Col: at - start + 1} }
	for _, span := range piece.FindAllStringIndex(text, -1) {
		s := text[span[0]:span[1]]
		if span[0] != end {
			panic("no tokens: " + text)
		}
		end = span[1]
		if !strings.HasPrefix(s, "//") && strings.TrimSpace(s) != "" {
			places = append(places, place(span[0]))
			texts = append(texts, s)
			tokens = append(tokens, tokenName(s))
		}
		for i, c := range []byte(s) {
			if c == '\n' {
				line, start = line+1, span[0]+i+1
			}
		}
	}
	return tokens, texts, append(places, place(len(text)))
}

func tokenName(s string) string {
	isWord := s[0] >= 'a' && s[0] <= 'z' || s[0] >= 'A' && s[0] <= 'Z' || s[0] == '_'
	switch {
	case isWord && !strings.Contains(" "+words+" ", " "+s+" "):
		return "NAME"
	case s[0] >= '0' && s[0] <= '9' && strings.Contains(s, "."):
		return "REAL"
	case s[0] >= '0' && s[0] <= '9':
		return "INT"
	}
	return "'" + s + "'"
}

// want tells what Parse should of a text with right tokens and little nesting.
func (c *chart) want(text string) (api.Errno, api.LorePlace) {
	tokens, _, places := cut(text)
	first := c.firstWrong(tokens)
	stood := map[string]bool{}
	for i, token := range tokens {
		if i == first {
			break
		}
		if i > 0 && tokens[i-1] == "'on'" {
			if stood[token] {
				return api.ErrDoubled, places[i]
			}
			stood[token] = true
		}
	}
	if first < 0 {
		return api.OK, api.LorePlace{}
	}
	return api.ErrGrammar, places[first]
}

func (c *chart) hold(t *testing.T, text string) {
	t.Helper()
	e, place := c.want(text)
	l, got, at := lore.Parse(text)
	if got != e || at != place || e != api.OK && !same(l, api.Lore{}) {
		t.Errorf("P17.2: %q: %d at %v, want %d at %v", text, got, at, e, place)
	}
}

// samples keep each rule of the grammar, in each of its ways.
var samples = []string{
	"program p;", "program p; const a = 1; const b = -2; const c = 0.5; const d = -0.5; const e = true; const f = false;",
	"program p; param a int; param b real; param c bool; state d int; state e real; state f bool; state g tally; agg h int; agg i real; agg j bool; agg k tally; ctl l int; ctl m real; ctl n bool; both;",
	"program p; lane a int min into x; lane b real max into x; lane c bool minint into x; lane d int maxint into x; lane e int add into x; lane f int and into x; lane g int or into x; lane h int nibbles into x; lane i real tally into t;",
	"program p; on start { } on scatter { } on apply { } on fold { } on turn { }", "program p; on turn { } on start { }",
	"program p; on start { let a = 1; a = 2; a += 3; clear a; if a { } if a { } else { } if a { } else if b { } else if c { } else { } while a { a = 1; } send a; send a, b; skip; change; keep; done; go; }",
	"program p; on fold { x = a or b and not c == d + e * -f; x = not not a; x = - - a; x = a or b or c; x = a and b and c; x = a - b + c; x = a / b * c % d; }",
	"program p; on fold { x = a == b; x = a != b; x = a < b; x = a <= b; x = a > b; x = a >= b; x = (a < b) == (not c); x = ((a)); x = -(a); x = not (a); }",
	"program p; on fold { x = 1; x = 1.5; x = true; x = false; x = vertex; x = outdeg; x = indeg; x = src; x = dst; x = weight; x = realweight; x = back; x = changed; x = round; }",
	"program p; on fold { x = min(a, b); x = max(a, b); x = abs(a); x = real(a); x = int(a); x = sqrt(a); x = total(a); x = when(a, b, c); x = band(a, b); x = bor(a, b); x = bxor(a, b); x = shl(a, b); x = shr(a, b); }",
	"program p; on fold { x = min(a or b, not c); x = abs((a)); x = when(a < b, min(a, b), -c) + 1; if min(a, b) { while not a { } } else { let q = -1; } }",
	hops,
}

// TestKept: what keeps a rule is read.
func TestKept(t *testing.T) {
	c := newChart()
	for _, text := range samples {
		read(t, text)
		c.hold(t, text)
	}
}

// TestBroken breaks each rule at each of its tokens: by the text's end there, by its want, and by many others in its place or ahead of it.
func TestBroken(t *testing.T) {
	c := newChart()
	others := append(strings.Fields(words), "{", "}", "(", ")", ",", ";", "=", "+=", "+", "-", "*", "/", "%", "==", "!=", "<", "<=", ">", ">=", "q", "1", "0.5")
	for s, text := range samples {
		_, texts, _ := cut(text)
		for i := range texts {
			lines := func(list []string) string { return strings.Join(list, []string{" ", "\n"}[s%2]) }
			c.hold(t, lines(texts[:i]))
			c.hold(t, lines(slices.Delete(slices.Clone(texts), i, i+1)))
			for k, other := range others {
				switch (k + i + s) % 5 {
				case 0, 2:
					changed := slices.Clone(texts)
					changed[i] = other
					c.hold(t, lines(changed))
				case 4:
					c.hold(t, lines(slices.Insert(slices.Clone(texts), i, other)))
				}
			}
		}
	}
}

// TestPlaces: some faults with the places that a reader finds.
func TestPlaces(t *testing.T) {
	for _, c := range []struct {
		text      string
		line, col int
	}{
		{"program program;", 1, 9}, {"program p\n;;", 2, 2}, {"prog p;", 1, 1}, {"program p; state x;", 1, 19}, {"program p; state x tally", 1, 25}, {"program p; param x tally;", 1, 20}, {"program p; ctl x tally;", 1, 18}, {"program p; lane x tally add into y;", 1, 19}, {"program p; lane l int none into x;", 1, 23}, {"program p; lane l int int into x;", 1, 23}, {"program p; lane l int add x;", 1, 27}, {"program p; both x;", 1, 17},
		{"program p; const x = - true;", 1, 24}, {"program p; const x = - -1;", 1, 24}, {"program p; const x = y;", 1, 22}, {"program p; const x = 1 + 1;", 1, 24}, {"program p; const x = (1);", 1, 22}, {"program p; const x 1;", 1, 20},
		{"program p; on begin { }", 1, 15}, {"program p; on start;", 1, 20}, {"program p; on start { } state x int;", 1, 25}, {"program p; on start { } ;", 1, 25}, {"program p; on start { }\n}", 2, 1}, {"program p; on start {", 1, 22}, {"program p; on on", 1, 15},
		{inExpr("a < b < c"), 2, 7}, {inExpr("a == b != c"), 2, 8}, {inExpr("not a < b < c"), 2, 11}, {inExpr("a and b < c == d"), 2, 13}, {inExpr("a == not b"), 2, 6}, {inExpr("- not a"), 2, 3}, {inExpr("a + not b"), 2, 5}, {inExpr("a * b not c"), 2, 7}, {inExpr("not"), 2, 4}, {inExpr("()"), 2, 2}, {inExpr("(a, b)"), 2, 3}, {inExpr("a b"), 2, 3}, {inExpr("a +"), 2, 4}, {inExpr("+ a"), 2, 1}, {inExpr("(a"), 2, 3}, {inExpr("a)"), 2, 2}, {inExpr("start"), 2, 1},
		{inExpr("min(a)"), 2, 6}, {inExpr("min(a, b, c)"), 2, 9}, {inExpr("min"), 2, 4}, {inExpr("min a"), 2, 5}, {inExpr("abs(a, b)"), 2, 6}, {inExpr("when(a, b)"), 2, 10}, {inExpr("abs()"), 2, 5}, {inExpr("vertex(a)"), 2, 7}, {inExpr("f(a)"), 2, 2},
		{"program p; on start { send ; }", 1, 28}, {"program p; on start { send a, ; }", 1, 31}, {"program p; on start { send a, b, c; }", 1, 32}, {"program p; on start { skip a; }", 1, 28}, {"program p; on start { clear; }", 1, 28}, {"program p; on start { x + 1; }", 1, 25}, {"program p; on start { x; }", 1, 24}, {"program p; on start { let x += 1; }", 1, 29}, {"program p; on start { 1 = x; }", 1, 23}, {"program p; on start { if a skip; }", 1, 28}, {"program p; on start { if { } }", 1, 26}, {"program p; on start { if a { } else skip; }", 1, 37}, {"program p; on start { else { } }", 1, 23}, {"program p; on start { while a { } else { } }", 1, 35}, {"program p; on start { if a { } else { } else { } }", 1, 41}, {"program p; on start { { } }", 1, 23}, {"program p; on start { vertex = 1; }", 1, 23}, {"program p; on start { let vertex = 1; }", 1, 27},
	} {
		refuse(t, c.text, api.ErrGrammar, c.line, c.col)
	}
}

func TestSecondHandler(t *testing.T) {
	for _, hand := range handNames {
		refuse(t, "program p; on "+hand+" { }\n on "+hand+" { }", api.ErrDoubled, 2, 5)
		refuse(t, "program p; on "+hand+" { }\n on "+hand+" walk", api.ErrDoubled, 2, 5)
		refuse(t, "program p; on "+hand+" { walk }\n on "+hand+" { }", api.ErrGrammar, 1, 23+len(hand))
		refuse(t, "program p; on "+hand+" { } on", api.ErrGrammar, 1, 22+len(hand))
		for _, other := range handNames {
			if other != hand {
				read(t, "program p; on "+hand+" { } on "+other+" { }")
				refuse(t, "program p; on "+hand+" { } on "+other+" { } on "+hand, api.ErrDoubled, 1, 31+len(hand)+len(other))
			}
		}
	}
	l := read(t, "program p; on turn { done; } on fold { x = 1; } on start { }")
	if len(l.Hands[api.HandTurn]) != 1 || len(l.Hands[api.HandFold]) != 1 || l.Hands[api.HandStart] != nil {
		t.Errorf("P17.2: %v", l)
	}
}

// TestBehind: what is told of the first wrong token does not hang on what stands behind it (P17.8).
func TestBehind(t *testing.T) {
	c := newChart()
	r := dice(1)
	for range 3000 {
		_, texts, _ := cut(pickOne(r, samples...))
		broken := strings.Join(spoil(r, texts), " ")
		c.hold(t, broken)
		_, e, place := lore.Parse(broken)
		tokens, parts, places := cut(broken)
		if e == api.OK || e == api.ErrMuch || slices.Index(places, place) == len(tokens) {
			continue
		}
		kept := parts[:slices.Index(places, place)+1]
		for range 3 {
			text := strings.Join(slices.Concat(kept, someTokens(r)), " ")
			if _, got, at := lore.Parse(text); got != e || at != place {
				t.Errorf("P17.8: %q: %d at %v, want %d at %v", text, got, at, e, place)
			}
		}
	}
}

// spoil changes some tokens.
func spoil(r *rand.Rand, texts []string) []string {
	out := slices.Clone(texts)
	for range 1 + r.IntN(3) {
		at := r.IntN(len(out))
		switch r.IntN(4) {
		case 0:
			out[at] = someToken(r)
		case 1:
			out = slices.Insert(out, at, someToken(r))
		case 2:
			out = append(slices.Delete(out, at, at+1), "")[:len(out)-1]
		default:
			other := r.IntN(len(out))
			out[at], out[other] = out[other], out[at]
		}
		if len(out) == 0 {
			return []string{"on"}
		}
	}
	return out
}

func someToken(r *rand.Rand) string {
	return pickOne(r, pickOne(r, strings.Fields(words)...), pickOne(r, "{", "}", "(", ")", ",", ";", "=", "+=", "+", "-", "*", "/", "%", "==", "!=", "<", "<=", ">", ">="), pickOne(r, "a", "x", "1", "2.5"))
}

func someTokens(r *rand.Rand) []string {
	var out []string
	for range r.IntN(20) {
		out = append(out, someToken(r))
	}
	return out
}
