package loom

import (
	"math"

	"sluice/api"
	"sluice/grain"
)

// layStack: the end, constants, the stack, locals.
func (t *table) layStack() {
	t[api.OpHalt] = row{"halt", noArg, everywhere, "h", "", (*machine).halt}
	t[api.OpInt] = row{"int", anyArg, everywhere, "", "i", (*machine).constant}
	t[api.OpReal] = row{"real", realArg, everywhere, "", "r", (*machine).constant}
	t[api.OpBool] = row{"bool", boolArg, everywhere, "", "b", (*machine).constant}
	t[api.OpDup] = row{"dup", noArg, everywhere, "x", "xx", (*machine).pick}
	t[api.OpDrop] = row{"drop", noArg, everywhere, "x", "", (*machine).drop}
	t[api.OpSwap] = row{"swap", noArg, everywhere, "xy", "yx", (*machine).swap}
	t[api.OpPick] = row{"pick", depthArg, everywhere, "", "p", (*machine).pick}
	t[api.OpGet] = row{"get", localArg, everywhere, "", "l", func(m *machine, n int64) { m.push(m.locals[n]) }}
	t[api.OpSet] = row{"set", localArg, everywhere, "l", "", func(m *machine, n int64) { m.locals[n] = m.pop() }}
}

// layWords: the words of state, aggregate and ctl.
func (t *table) layWords() {
	t[api.OpState] = row{"state", stateArg, everywhere &^ inTurn, "", "s", func(m *machine, n int64) { m.read(m.code.State[n], m.frame.State[n]) }}
	t[api.OpToState] = row{"tostate", stateArg, inStart | inApply, "s", "", func(m *machine, n int64) { m.frame.State[n] = m.pop() }}
	t[api.OpAgg] = row{"agg", aggArg, inApply | inFold | inTurn, "", "a", func(m *machine, n int64) { m.read(m.code.Agg[n], m.frame.Agg[n]) }}
	t[api.OpToAgg] = row{"toagg", aggArg, inFold, "a", "", func(m *machine, n int64) { m.frame.Agg[n] = m.pop() }}
	t[api.OpCtl] = row{"ctl", ctlArg, everywhere &^ inStart, "", "c", func(m *machine, n int64) { m.read(m.code.Ctl[n], m.frame.Ctl[n]) }}
	t[api.OpToCtl] = row{"toctl", ctlArg, inTurn, "c", "", func(m *machine, n int64) { m.frame.Ctl[n] = m.pop() }}
}

// layGiven: what a handler is told of the vertex, the edge, the round.
func (t *table) layGiven() {
	t[api.OpVertex] = given("vertex", inStart|inApply|inFold, func(f *api.Frame) int64 { return int64(f.Vertex) })
	t[api.OpOutDeg] = given("outdeg", inStart, func(f *api.Frame) int64 { return atMost(f.Degrees.Out) })
	t[api.OpInDeg] = given("indeg", inStart, func(f *api.Frame) int64 { return atMost(f.Degrees.In) })
	t[api.OpSrc] = given("src", inScatter, func(f *api.Frame) int64 { return int64(f.Edge.Src) })
	t[api.OpDst] = given("dst", inScatter, func(f *api.Frame) int64 { return int64(f.Edge.Dst) })
	t[api.OpWeight] = given("weight", inScatter, func(f *api.Frame) int64 { return int64(int32(f.Edge.W)) })
	t[api.OpRealWeight] = row{"realweight", noArg, inScatter, "", "r", func(m *machine, n int64) { m.read(api.WordReal, uint64(m.frame.Edge.W)) }}
	t[api.OpBack] = row{"back", noArg, inScatter, "", "b", func(m *machine, n int64) { m.push(truth(m.frame.Back)) }}
	t[api.OpChanged] = given("changed", inTurn, func(f *api.Frame) int64 { return atMost(f.Changed) })
	t[api.OpRound] = given("round", inTurn, func(f *api.Frame) int64 { return int64(f.Round) })
}

// layWhole: reckoning with ints.
func (t *table) layWhole() {
	t[api.OpAddI] = twoInts("addi", grain.Add)
	t[api.OpSubI] = twoInts("subi", grain.Sub)
	t[api.OpMulI] = twoInts("muli", grain.Mul)
	t[api.OpQuoI] = twoInts("quoi", grain.Quo)
	t[api.OpRemI] = twoInts("remi", grain.Rem)
	t[api.OpNegI] = row{"negi", noArg, everywhere, "i", "i", func(m *machine, n int64) { m.whole(grain.Neg(m.popInt())) }}
	t[api.OpAbsI] = row{"absi", noArg, everywhere, "i", "i", func(m *machine, n int64) { m.whole(size(m.popInt())) }}
	t[api.OpMinI] = twoInts("mini", func(x, y int64) (int64, api.Errno) { return min(x, y), api.OK })
	t[api.OpMaxI] = twoInts("maxi", func(x, y int64) (int64, api.Errno) { return max(x, y), api.OK })
	t[api.OpAndI] = twoInts("andi", func(x, y int64) (int64, api.Errno) { return x & y, api.OK })
	t[api.OpOrI] = twoInts("ori", func(x, y int64) (int64, api.Errno) { return x | y, api.OK })
	t[api.OpXorI] = twoInts("xori", func(x, y int64) (int64, api.Errno) { return x ^ y, api.OK })
	t[api.OpShl] = row{"shl", bitsArg, everywhere, "i", "i", func(m *machine, n int64) { m.push(m.pop() << n) }}
	t[api.OpShr] = row{"shr", bitsArg, everywhere, "i", "i", func(m *machine, n int64) { m.push(m.pop() >> n) }}
	t[api.OpToReal] = row{"toreal", noArg, everywhere, "i", "r", func(m *machine, n int64) { m.real(float32(m.popInt())) }}
	t[api.OpToInt] = row{"toint", noArg, everywhere, "r", "i", func(m *machine, n int64) { m.whole(cut(m.popReal())) }}
}

// layReal: reckoning with reals. Each result is taken by its bits at once, so no two operations are fused.
func (t *table) layReal() {
	t[api.OpAddF] = twoReals("addf", func(x, y float32) float32 { return x + y })
	t[api.OpSubF] = twoReals("subf", func(x, y float32) float32 { return x - y })
	t[api.OpMulF] = twoReals("mulf", func(x, y float32) float32 { return x * y })
	t[api.OpQuoF] = twoReals("quof", func(x, y float32) float32 { return x / y })
	t[api.OpNegF] = oneReal("negf", func(x float32) float32 { return -x })
	t[api.OpAbsF] = oneReal("absf", func(x float32) float32 { return grain.Float(grain.Bits(x) &^ signBit) })
	t[api.OpMinF] = twoReals("minf", func(x, y float32) float32 {
		if rank(y) < rank(x) {
			return y
		}
		return x
	})
	t[api.OpMaxF] = twoReals("maxf", func(x, y float32) float32 {
		if rank(y) > rank(x) {
			return y
		}
		return x
	})
	// A root of 53 bits has more than twice the bits of a float32, so rounding it a second time is as rounding once.
	t[api.OpSqrtF] = oneReal("sqrtf", func(x float32) float32 { return float32(math.Sqrt(float64(x))) })
}

// layTests: what gives a bool.
func (t *table) layTests() {
	t[api.OpEqI] = testInts("eqi", func(x, y int64) bool { return x == y })
	t[api.OpLtI] = testInts("lti", func(x, y int64) bool { return x < y })
	t[api.OpLeI] = testInts("lei", func(x, y int64) bool { return x <= y })
	t[api.OpEqF] = testReals("eqf", func(x, y float32) bool { return x == y })
	t[api.OpLtF] = testReals("ltf", func(x, y float32) bool { return x < y })
	t[api.OpLeF] = testReals("lef", func(x, y float32) bool { return x <= y })
	t[api.OpEqB] = twoBools("eqb", func(x, y uint64) uint64 { return truth(x == y) })
	t[api.OpAnd] = twoBools("and", func(x, y uint64) uint64 { return x & y })
	t[api.OpOr] = twoBools("or", func(x, y uint64) uint64 { return x | y })
	t[api.OpNot] = row{"not", noArg, everywhere, "b", "b", func(m *machine, n int64) { m.push(1 - m.pop()) }}
}

// laySums: the exact sums of state and aggregate.
func (t *table) laySums() {
	t[api.OpTally] = row{"tally", stateSum, inStart | inApply, "r", "", func(m *machine, n int64) { addTo(m.frame.State[n:], m.pop()) }}
	t[api.OpTotal] = row{"total", stateSum, everywhere &^ inTurn, "", "r", func(m *machine, n int64) { m.total(m.frame.State[n:]) }}
	t[api.OpClear] = row{"clear", stateSum, inStart | inApply, "", "", func(m *machine, n int64) { clear(m.frame.State[n:][:api.TallyWords]) }}
	t[api.OpAggTally] = row{"aggtally", aggSum, inFold, "r", "", func(m *machine, n int64) { addTo(m.frame.Agg[n:], m.pop()) }}
	t[api.OpAggTotal] = row{"aggtotal", aggSum, inApply | inFold | inTurn, "", "r", func(m *machine, n int64) { m.total(m.frame.Agg[n:]) }}
}

// layJumps: where it goes on elsewhere.
func (t *table) layJumps() {
	t[api.OpJump] = row{"jump", placeArg, everywhere, "", "", (*machine).jump}
	t[api.OpJumpIf] = row{"jumpif", placeArg, everywhere, "b", "", func(m *machine, n int64) { m.jumpOn(1, n) }}
	t[api.OpJumpUnless] = row{"jumpunless", placeArg, everywhere, "b", "", func(m *machine, n int64) { m.jumpOn(0, n) }}
}
