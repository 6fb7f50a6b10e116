package lore_test

import (
	"strings"
	"testing"

	"sluice/api"
	"sluice/lore"
)

// words are the reserved ones, as the chapter lists them.
const words = "program const param state agg ctl lane both into on start scatter apply fold turn let if else while send skip change keep done go clear int real bool tally none min max minint maxint add and or nibbles not true false vertex outdeg indeg src dst weight realweight back changed round abs sqrt total when band bor bxor shl shr"

// inExpr is a text with an expression at line 2, byte 1.
func inExpr(x string) string { return "program p; on start { x =\n" + x + "; }" }

// exprOf reads an expression.
func exprOf(t testing.TB, x string) api.LoreExpr {
	t.Helper()
	return read(t, inExpr(x)).Hands[0][0].X
}

func TestInts(t *testing.T) {
	for text, want := range map[string]uint64{"0": 0, "7": 7, "007": 7, "9223372036854775807": 1<<63 - 1, "0000000000000000009": 9, "0000000000000000000": 0} {
		if x := exprOf(t, text); len(x) != 1 || x[0] != (api.LoreNode{Op: api.LxInt, Word: want}) {
			t.Errorf("P17.2: %s: %v", text, x)
		}
	}
	for _, text := range []string{"9223372036854775808", "9999999999999999999", "00000000000000000009", "12345678901234567890", "18446744073709551616", "3a", "3_", "3Z", "007a", "1e5", "1e", "0x1", "9223372036854775808.", "00000000000000000009.", strings.Repeat("1", 5000)} {
		refuse(t, inExpr(text), api.ErrGlyph, 2, 1)
		refuse(t, inExpr("x + "+text), api.ErrGlyph, 2, 5)
	}
	refuse(t, inExpr("1 2"), api.ErrGrammar, 2, 3)
	refuse(t, inExpr("3."), api.ErrGlyph, 2, 2)
	refuse(t, inExpr("3.x"), api.ErrGlyph, 2, 2)
	refuse(t, inExpr("3 .5"), api.ErrGlyph, 2, 3)
	refuse(t, inExpr(".5"), api.ErrGlyph, 2, 1)
	refuse(t, inExpr("3.+5"), api.ErrGlyph, 2, 2)
}

func TestReals(t *testing.T) {
	for text, want := range map[string]uint64{
		"0.0": 0, "1.5": 0x3fc00000, "0.5": 0x3f000000, "2.5e0": 0x40200000, "2.5E1": 0x41c80000, "25.0e-1": 0x40200000, "0.25E+1": 0x40200000, "3.40282347e+38": 0x7f7fffff, "1.40129846e-45": 1, "1.0e-46": 0, "1.0e-400": 0,
		"00.5": 0x3f000000, "12345678901234567890.5": 0x5f2b54aa, "1.0e0001": 0x41200000, strings.Repeat("0", 62) + ".50": 0x3f000000, "16777217.0": 0x4b800000, "0.1": 0x3dcccccd,
	} {
		if x := exprOf(t, text); len(x) != 1 || x[0] != (api.LoreNode{Op: api.LxReal, Word: want}) {
			t.Errorf("P17.2: %s: %x", text, x)
		}
	}
	for _, text := range []string{"1.0e39", "3.4028236e38", "1.0e401", "0.0e401", "1.0e-401", "1.0e12345", "1.5x", "1.5_", "1.5e", "1.5e+", "1.5e-x", "1.5e1x", "1.5ee", "1.5e1e1", strings.Repeat("0", 64) + ".5", strings.Repeat("9", 40) + ".0"} {
		refuse(t, inExpr(text), api.ErrGlyph, 2, 1)
		refuse(t, inExpr("- "+text), api.ErrGlyph, 2, 3)
	}
	refuse(t, inExpr("1.5.5"), api.ErrGlyph, 2, 4)
	refuse(t, inExpr("1.5e1.5"), api.ErrGlyph, 2, 6)
	refuse(t, inExpr("1.5."), api.ErrGlyph, 2, 4)
	refuse(t, inExpr("1.5 5"), api.ErrGrammar, 2, 5)
}

// every byte that begins no token, wherever it stands.
func TestBytes(t *testing.T) {
	begins := " \t\n\r{}(),;=+-*/%<>_"
	for c := range 256 {
		b := string([]byte{byte(c)})
		letter := c >= '0' && c <= '9' || c >= 'a' && c <= 'z' || c >= 'A' && c <= 'Z'
		if letter || strings.Contains(begins, b) {
			if _, e, _ := lore.Parse("program p; " + b + " "); e == api.ErrGlyph {
				t.Errorf("P17.2: the byte %d: %d", c, e)
			}
			continue
		}
		refuse(t, b, api.ErrGlyph, 1, 1)
		refuse(t, "program p;\n "+b, api.ErrGlyph, 2, 2)
		refuse(t, "program p"+b+";", api.ErrGlyph, 1, 10)
		refuse(t, inExpr("12"+b), api.ErrGlyph, 2, 3)
		refuse(t, "walk; "+b+"? ", api.ErrGlyph, 1, 7)
		if got := read(t, "program p; // "+b+"\nstate x int; //"+b); len(got.Decls) != 1 {
			t.Errorf("P17.2: the byte %d in a comment: %v", c, got)
		}
	}
	refuse(t, inExpr("a ! = b"), api.ErrGlyph, 2, 3)
	refuse(t, inExpr("a & b"), api.ErrGlyph, 2, 3)
	refuse(t, inExpr("é"), api.ErrGlyph, 2, 1)
}

// the longest sign that fits, with and without blanks around it.
func TestSigns(t *testing.T) {
	for _, c := range []struct {
		text string
		col  int // of the first token that can't stand there
	}{
		{"a === b", 5}, {"a =", 3}, {"a += b", 3}, {"a +== b", 3}, {"a <== b", 5}, {"a <=> b", 5}, {"a >>= b", 4}, {"a != = b", 6}, {"a !== b", 5}, {"a -= b", 4}, {"a < = b", 5}, {"a = = b", 3}, {"a ++ b", 4}, {"a ** b", 4}, {"a */ b", 4}, {"a %% b", 4}, {"a,b", 2}, {"a{b", 2}, {"a}b", 2}, {"a)b", 2}, {"a(b", 2}, {"a <- = b", 6},
	} {
		refuse(t, inExpr(c.text), api.ErrGrammar, 2, c.col)
	}
	for text, ops := range map[string][]int{
		"a==b": {4, 4, 12}, "a!=b": {4, 4, 13}, "a<b": {4, 4, 14}, "a<=b": {4, 4, 15}, "a>b": {4, 4, 16}, "a>=b": {4, 4, 17}, "a+b": {4, 4, 7}, "a-b": {4, 4, 8}, "a*b": {4, 4, 9}, "a/b": {4, 4, 10}, "a%b": {4, 4, 11}, "a--b": {4, 4, 5, 8}, "a+-b": {4, 4, 5, 7}, "a<-b": {4, 4, 5, 14}, "a/ b": {4, 4, 10}, "a/b//c": {4, 4, 10}, "not(a)": {4, 6}, "1and 2": nil, "(1)and(2)": {1, 1, 18},
	} {
		if ops == nil {
			refuse(t, inExpr(text), api.ErrGlyph, 2, 1)
			continue
		}
		x := exprOf(t, strings.Replace(text, "//c", "//c\n", 1))
		if !sameOps(x, ops) {
			t.Errorf("P17.2: %s: %v", text, x)
		}
	}
	if l := read(t, "program p;on start{x+=1;x=2;}"); l.Hands[0][0].Op != api.LsPut || l.Hands[0][1].Op != api.LsSet {
		t.Errorf("P17.2: %v", l)
	}
}

func sameOps(x api.LoreExpr, ops []int) bool {
	if len(x) != len(ops) {
		return false
	}
	for i, n := range x {
		if n.Op != ops[i] {
			return false
		}
	}
	return true
}

// each reserved word is no name; with a letter more, a letter less or in great letters it is one.
func TestReserved(t *testing.T) {
	list := strings.Fields(words)
	if len(list) != 61 {
		t.Fatalf("%d words", len(list))
	}
	isWord := func(s string) bool { return strings.Contains(" "+words+" ", " "+s+" ") }
	for _, w := range list {
		refuse(t, "program "+w+";", api.ErrGrammar, 1, 9)
		refuse(t, "program p; state "+w+" int;", api.ErrGrammar, 1, 18)
		refuse(t, "program p; on fold { let "+w+" = 1; }", api.ErrGrammar, 1, 26)
		refuse(t, "program p; lane l int min into "+w+";", api.ErrGrammar, 1, 32)
		if e, _, _ := lore.Check(api.Lore{Name: w}); e != api.ErrTree {
			t.Errorf("P17.1: the name %s: %d", w, e)
		}
		for _, other := range []string{w + "x", w + "_", "_" + w, w + "1", strings.ToUpper(w), strings.ToUpper(w[:1]) + w[1:], w[:len(w)-1], w + " "} {
			other = strings.TrimSpace(other)
			if isWord(other) {
				continue
			}
			if l := read(t, "program "+other+";"); l.Name != other {
				t.Errorf("P17.2: %s: %v", other, l)
			}
		}
	}
	if l := read(t, "program p; on fold { let X = x; x = X; }"); l.Hands[3][0].Name != "X" || l.Hands[3][1].X[0].Name != "X" || l.Hands[3][0].X[0].Name != "x" {
		t.Errorf("P17.2: small and great letters: %v", l)
	}
}

func TestNames(t *testing.T) {
	long := strings.Repeat("n", api.MaxLoreName)
	for _, n := range []string{"a", "_", "Z9", "a_1", "__", long, strings.ToUpper(long)} {
		if l := read(t, "program "+n+";"); l.Name != n {
			t.Errorf("P17.2: %s: %v", n, l)
		}
	}
	refuse(t, "program "+long+"n;", api.ErrMuch, 1, 9)
	refuse(t, "program p; state x int;\n on\n\t "+long+"1", api.ErrMuch, 3, 3)
	refuse(t, "walk walk walk "+long+"_ ?", api.ErrMuch, 1, 16)
	refuse(t, "? "+long+"_", api.ErrGlyph, 1, 1)
	refuse(t, "1"+long+"n", api.ErrGlyph, 1, 1)
	read(t, "program p; //"+long+long)
}

// the first error of the tokens goes ahead of all that the grammar asks, wherever it stands.
func TestTokensFirst(t *testing.T) {
	refuse(t, "on on on\n  ?", api.ErrGlyph, 2, 3)
	refuse(t, "program p; on start { } on start { } 1x", api.ErrGlyph, 1, 38)
	refuse(t, "program p; on start { x = "+strings.Repeat("(", 300)+" 1x", api.ErrGlyph, 1, 328)
	refuse(t, "program p; 1x ?", api.ErrGlyph, 1, 12)
}

func TestBlanks(t *testing.T) {
	want := read(t, "program p; state x int; on start { x = 1; }")
	for _, text := range []string{
		"\tprogram\rp\n;\r\nstate\tx\nint;on\tstart{x=1;}\n\n", "//\nprogram//p\np;//;\nstate x int;//\non start { x = 1; }//", "program p;state x int;on start{x=1;}// the end", "// a // b\n//\n// ?\nprogram p; state x int; on start { x = 1; }", "program p; state x int; on start { x = 1 // + 2\n; }\r", "program p; state x int;//\r?\non start { x = 1; } //\n",
	} {
		if got := read(t, text); !same(got, want) {
			t.Errorf("P17.8: %q: %v", text, got)
		}
	}
	refuse(t, "pro gram p;", api.ErrGrammar, 1, 1)
	refuse(t, "program/p;", api.ErrGrammar, 1, 8)
	refuse(t, "program p; / / x", api.ErrGrammar, 1, 12)
	read(t, "program p; //\r")
}

// where the text's end is.
func TestEnd(t *testing.T) {
	refuse(t, "", api.ErrGrammar, 1, 1)
	refuse(t, "\n", api.ErrGrammar, 2, 1)
	refuse(t, "  \n\n  ", api.ErrGrammar, 3, 3)
	refuse(t, "program", api.ErrGrammar, 1, 8)
	refuse(t, "program p", api.ErrGrammar, 1, 10)
	refuse(t, "program p // x", api.ErrGrammar, 1, 15)
	refuse(t, "program p // x\n", api.ErrGrammar, 2, 1)
	refuse(t, "program p // x\r\n\t", api.ErrGrammar, 2, 2)
}

func TestLong(t *testing.T) {
	right := "program p; state x int;"
	read(t, right+strings.Repeat(" ", api.MaxLore-len(right)))
	read(t, right+"//"+strings.Repeat("?", api.MaxLore-len(right)-2))
	refuse(t, right+strings.Repeat(" ", api.MaxLore+1-len(right)), api.ErrLong, 1, 1)
	refuse(t, "\n\n"+strings.Repeat("?", api.MaxLore), api.ErrLong, 1, 1)
	refuse(t, strings.Repeat("?", api.MaxLore), api.ErrGlyph, 1, 1)
	refuse(t, strings.Repeat("\n", api.MaxLore), api.ErrGrammar, api.MaxLore+1, 1)
}
