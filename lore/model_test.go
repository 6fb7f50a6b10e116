package lore_test

import (
	"math"
	"math/big"

	"sluice/api"
)

// model does what the chapter says of a handler, over names and over Go's own numbers: ints as int64 (and big ones on the way), reals as float32, bools as bool.
type model struct {
	l     api.Lore
	given map[string]any // consts, params and what the frame tells
	seen  map[string]any // lets
	frame api.Frame
	hand  int
	most  int
	count int
	out   api.Effect
}

// stop is how a handler ends ahead of its last statement.
type stop struct{ err api.Errno }

func trapIf(is bool, err api.Errno) {
	if is {
		panic(stop{err})
	}
}

// modelRun tells what Interp should.
func modelRun(l api.Lore, args []api.LoreArg, hand int, f api.Frame, most int) (out api.Effect, count int, err api.Errno) {
	m := &model{l: l, given: map[string]any{}, seen: map[string]any{}, frame: f, hand: hand, most: most}
	for _, d := range l.Decls {
		if d.Class == api.LoreConst {
			m.given[d.Name] = value(d.Kind, d.Word)
		}
	}
	for _, a := range args {
		m.given[a.Name] = value(a.Kind, a.Word)
	}
	if hand == api.HandStart {
		m.frame.State = api.State{}
	}
	defer func() {
		if gave := recover(); gave != nil {
			out, count, err = m.out, m.count, gave.(stop).err
			if err == api.OK {
				out = m.leave()
			} else {
				out = api.Effect{}
			}
		}
	}()
	m.steps(l.Hands[hand])
	return m.leave(), m.count, api.OK
}

// value reads a word by its kind.
func value(kind api.WordKind, word uint64) any {
	switch kind {
	case api.WordInt:
		return int64(word)
	case api.WordReal:
		return math.Float32frombits(uint32(word))
	}
	return word != 0
}

func wordOf(v any) uint64 {
	switch v := v.(type) {
	case int64:
		return uint64(v)
	case float32:
		return uint64(math.Float32bits(v))
	case bool:
		if v {
			return 1
		}
	}
	return 0
}

// leave is what is left at the end.
func (m *model) leave() api.Effect {
	x := m.out
	switch m.hand {
	case api.HandStart, api.HandApply:
		x.State = m.frame.State
		for i := m.width(api.LoreState); i < api.StateWords; i++ {
			x.State[i] = 0
		}
	case api.HandFold:
		x.Agg = m.frame.Agg
	case api.HandTurn:
		x.Ctl = m.frame.Ctl
	}
	return x
}

// width tells how many words a class has.
func (m *model) width(class int) int {
	n := 0
	for _, d := range m.l.Decls {
		if d.Class == class {
			n += map[bool]int{true: 6, false: 1}[d.Kind == api.WordTally]
		}
	}
	return n
}

// place finds the words of a declared name.
func (m *model) place(name string) (words []uint64, kind api.WordKind) {
	first := map[int]int{}
	for _, d := range m.l.Decls {
		size := map[bool]int{true: 6, false: 1}[d.Kind == api.WordTally]
		if d.Name == name {
			all := map[int][]uint64{api.LoreState: m.frame.State[:], api.LoreAgg: m.frame.Agg[:], api.LoreCtl: m.frame.Ctl[:]}[d.Class]
			return all[first[d.Class]:][:size], d.Kind
		}
		first[d.Class] += size
	}
	panic("no such name: " + name)
}

func (m *model) begin() {
	trapIf(m.count == m.most, api.ErrFuel)
	m.count++
}

func (m *model) steps(steps []api.LoreStep) {
	var lets []string
	for _, s := range steps {
		m.begin()
		switch s.Op {
		case api.LsLet:
			m.seen[s.Name] = m.eval(s.X)
			lets = append(lets, s.Name)
		case api.LsSet:
			v := m.eval(s.X)
			if _, seen := m.seen[s.Name]; seen {
				m.seen[s.Name] = v
			} else {
				words, _ := m.place(s.Name)
				words[0] = wordOf(v)
			}
		case api.LsPut:
			v := m.eval(s.X).(float32)
			words, _ := m.place(s.Name)
			if !math.IsInf(float64(v), 0) {
				setUnits(words, new(big.Int).Add(units(words), unitsOf(v)))
			}
		case api.LsClear:
			words, _ := m.place(s.Name)
			clear(words)
		case api.LsIf:
			if m.eval(s.X).(bool) {
				m.steps(s.Then)
			} else {
				m.steps(s.Else)
			}
		case api.LsWhile:
			for m.eval(s.X).(bool) {
				m.steps(s.Then)
				m.begin()
			}
		case api.LsSend:
			a, b := wordOf(m.eval(s.X)), uint64(0)
			if len(s.Y) > 0 {
				b = wordOf(m.eval(s.Y))
			}
			m.out.A, m.out.B = a, b
			m.out.Flag = true
			panic(stop{})
		default:
			m.out.Flag = s.Op == api.LsChange || s.Op == api.LsDone
			panic(stop{})
		}
	}
	for _, name := range lets {
		delete(m.seen, name)
	}
}

// units is the integer that six words are.
func units(words []uint64) *big.Int {
	n := new(big.Int)
	for i := 5; i >= 0; i-- {
		n.Lsh(n, 64).Or(n, new(big.Int).SetUint64(words[i]))
	}
	if words[5]>>63 == 1 {
		n.Sub(n, new(big.Int).Lsh(big.NewInt(1), 384))
	}
	return n
}

func setUnits(words []uint64, n *big.Int) {
	low := new(big.Int).And(n, new(big.Int).Sub(new(big.Int).Lsh(big.NewInt(1), 384), big.NewInt(1)))
	for i := range words {
		words[i] = new(big.Int).And(new(big.Int).Rsh(low, uint(64*i)), new(big.Int).SetUint64(math.MaxUint64)).Uint64()
	}
}

// unitsOf is a real as a multiple of 2^-149.
func unitsOf(v float32) *big.Int {
	x := new(big.Float).SetPrec(500).SetFloat64(float64(v))
	n, _ := x.SetMantExp(x, 149).Int(nil)
	return n
}

func (m *model) total(words []uint64) float32 {
	x := new(big.Float).SetPrec(500).SetInt(units(words))
	v, _ := x.SetMantExp(x, -149).Float32()
	trapIf(math.IsInf(float64(v), 0), api.ErrTrapReal)
	return v
}

func (m *model) eval(x api.LoreExpr) any {
	m.begin()
	top, under := split(x)
	switch top.Op {
	case api.LxInt:
		return int64(top.Word)
	case api.LxReal:
		return math.Float32frombits(uint32(top.Word))
	case api.LxBool:
		return top.Word == 1
	case api.LxName:
		return m.read(top.Name)
	case api.LxAnd:
		return m.eval(under[0]).(bool) && m.eval(under[1]).(bool)
	case api.LxOr:
		return m.eval(under[0]).(bool) || m.eval(under[1]).(bool)
	}
	switch top.Name {
	case "when":
		if m.eval(under[0]).(bool) {
			return m.eval(under[1])
		}
		return m.eval(under[2])
	case "total":
		m.begin()
		words, _ := m.place(under[0][0].Name)
		return m.total(words)
	}
	var vs []any
	for _, u := range under {
		vs = append(vs, m.eval(u))
	}
	return operate(top, vs)
}

func (m *model) read(name string) any {
	if v, ok := m.seen[name]; ok {
		return v
	}
	if v, ok := m.given[name]; ok {
		return v
	}
	atMost := func(n uint64) int64 { return int64(min(n, math.MaxInt64)) }
	f := m.frame
	switch name {
	case "vertex":
		return int64(f.Vertex)
	case "outdeg":
		return atMost(f.Degrees.Out)
	case "indeg":
		return atMost(f.Degrees.In)
	case "src":
		return int64(f.Edge.Src)
	case "dst":
		return int64(f.Edge.Dst)
	case "weight":
		return int64(int32(f.Edge.W))
	case "realweight":
		return number(math.Float32frombits(f.Edge.W))
	case "back":
		return f.Back
	case "changed":
		return atMost(f.Changed)
	case "round":
		return int64(f.Round)
	}
	words, kind := m.place(name)
	v := value(kind, words[0])
	if r, ok := v.(float32); ok {
		return number(r)
	}
	return v
}

// number is a real that is one.
func number(x float32) float32 {
	trapIf(x != x, api.ErrTrapReal)
	return x
}

func operate(top api.LoreNode, vs []any) any {
	switch x := vs[0].(type) {
	case int64:
		if len(vs) == 1 {
			return wholeOne(top, x)
		}
		return wholeTwo(top, x, vs[1].(int64))
	case float32:
		if len(vs) == 1 {
			return realOne(top, x)
		}
		return realTwo(top, x, vs[1].(float32))
	case bool:
		switch top.Op {
		case api.LxNot:
			return !x
		case api.LxEq:
			return x == vs[1].(bool)
		case api.LxNe:
			return x != vs[1].(bool)
		}
	}
	panic("no such operation")
}

func inRange(n *big.Int) int64 {
	trapIf(!n.IsInt64(), api.ErrTrapInt)
	return n.Int64()
}

func wholeOne(top api.LoreNode, x int64) any {
	switch {
	case top.Op == api.LxNeg:
		return inRange(new(big.Int).Neg(big.NewInt(x)))
	case top.Name == "abs":
		return inRange(new(big.Int).Abs(big.NewInt(x)))
	}
	v, _ := new(big.Float).SetInt64(x).Float32()
	return v
}

func wholeTwo(top api.LoreNode, x, y int64) any {
	a, b := big.NewInt(x), big.NewInt(y)
	switch top.Op {
	case api.LxAdd:
		return inRange(a.Add(a, b))
	case api.LxSub:
		return inRange(a.Sub(a, b))
	case api.LxMul:
		return inRange(a.Mul(a, b))
	case api.LxDiv:
		trapIf(y == 0, api.ErrTrapZero)
		return inRange(a.Quo(a, b))
	case api.LxRem:
		trapIf(y == 0, api.ErrTrapZero)
		return inRange(a.Rem(a, b))
	case api.LxCall:
		return wholeCall(top.Name, x, y)
	}
	return ordered(top.Op, a.Cmp(b))
}

// ordered is a test of numbers of which one is below, at or above the other.
func ordered(op, cmp int) bool {
	switch op {
	case api.LxEq:
		return cmp == 0
	case api.LxNe:
		return cmp != 0
	case api.LxLt:
		return cmp < 0
	case api.LxLe:
		return cmp <= 0
	case api.LxGt:
		return cmp > 0
	}
	return cmp >= 0
}

func wholeCall(name string, x, y int64) int64 {
	switch name {
	case "min":
		return min(x, y)
	case "max":
		return max(x, y)
	case "band":
		return x & y
	case "bor":
		return x | y
	case "bxor":
		return x ^ y
	case "shl":
		return x << y
	}
	return int64(uint64(x) >> y)
}

func realOne(top api.LoreNode, x float32) any {
	switch {
	case top.Op == api.LxNeg:
		return math.Float32frombits(math.Float32bits(x) ^ 1<<31)
	case top.Name == "abs":
		return math.Float32frombits(math.Float32bits(x) &^ (1 << 31))
	case top.Name == "sqrt":
		trapIf(x < 0, api.ErrTrapReal)
		v, _ := new(big.Float).SetPrec(300).Sqrt(new(big.Float).SetFloat64(float64(x))).Float32()
		return v
	}
	trapIf(math.IsInf(float64(x), 0), api.ErrTrapInt)
	n, _ := new(big.Float).SetFloat64(float64(x)).Int(nil)
	return inRange(n)
}

func realTwo(top api.LoreNode, x, y float32) any {
	lesser := x < y || x == y && math.Signbit(float64(x)) && !math.Signbit(float64(y))
	switch {
	case top.Op == api.LxAdd:
		return number(float32(float64(x) + float64(y))) // a sum of two in float64 rounds as once
	case top.Op == api.LxSub:
		return number(float32(float64(x) - float64(y)))
	case top.Op == api.LxMul:
		return number(float32(float64(x) * float64(y)))
	case top.Op == api.LxDiv:
		return number(float32(float64(x) / float64(y)))
	case top.Name == "min" && lesser, top.Name == "max" && !lesser:
		return x
	case top.Op == api.LxCall:
		return y
	case x < y:
		return ordered(top.Op, -1)
	case x > y:
		return ordered(top.Op, 1)
	}
	return ordered(top.Op, 0)
}
