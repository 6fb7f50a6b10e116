package loom_test

import (
	"math"
	"math/big"

	"sluice/api"
)

// reckon is what an instruction makes of what it pops, by numbers of any size.
func reckon(x api.Ins, off []value) (value, api.Errno) {
	switch {
	case x.Op <= api.OpXorI:
		return ofInts(x.Op, off)
	case x.Op == api.OpShl:
		n := new(big.Int).SetUint64(off[0].word())
		n.Lsh(n, uint(x.Arg))
		return whole(int64(n.Mod(n, new(big.Int).Lsh(big.NewInt(1), 64)).Uint64())), api.OK
	case x.Op == api.OpShr:
		n := new(big.Int).SetUint64(off[0].word())
		return whole(int64(n.Rsh(n, uint(x.Arg)).Uint64())), api.OK
	case x.Op <= api.OpSqrtF:
		return ofReals(x.Op, off)
	case x.Op <= api.OpNot:
		return value{kind: 'b', yes: holds(x.Op, off)}, api.OK
	case x.Op == api.OpToReal:
		near, _ := new(big.Rat).SetInt(off[0].n).Float32()
		return checkedReal(math.Float32bits(near))
	}
	if off[0].bits&0x7f800000 == 0x7f800000 {
		return value{}, api.ErrTrapInt
	}
	r := exact(off[0].bits)
	return checkedInt(new(big.Int).Quo(r.Num(), r.Denom()))
}

func checkedInt(n *big.Int) (value, api.Errno) {
	if !n.IsInt64() {
		return value{}, api.ErrTrapInt
	}
	return value{kind: 'i', n: n}, api.OK
}

func ofInts(o int, off []value) (value, api.Errno) {
	a, n := off[0].n, new(big.Int)
	if o == api.OpNegI {
		return checkedInt(n.Neg(a))
	}
	if o == api.OpAbsI {
		return checkedInt(n.Abs(a))
	}
	b := off[1].n
	if (o == api.OpQuoI || o == api.OpRemI) && b.Sign() == 0 {
		return value{}, api.ErrTrapZero
	}
	switch o {
	case api.OpAddI:
		n.Add(a, b)
	case api.OpSubI:
		n.Sub(a, b)
	case api.OpMulI:
		n.Mul(a, b)
	case api.OpQuoI:
		n.Quo(a, b)
	case api.OpRemI:
		n.Rem(a, b)
	case api.OpMinI, api.OpMaxI:
		n = a
		if b.Cmp(a) < 0 == (o == api.OpMinI) {
			n = b
		}
	case api.OpAndI:
		n.And(a, b)
	case api.OpOrI:
		n.Or(a, b)
	case api.OpXorI:
		n.Xor(a, b)
	}
	return checkedInt(n)
}

// exact is the number of a real that is not infinite.
func exact(bits uint32) *big.Rat {
	return new(big.Rat).SetFloat64(float64(math.Float32frombits(bits)))
}

func isFinite(bits uint32) bool { return bits&0x7f800000 != 0x7f800000 }

// ofReals: what is finite and not 0 is reckoned exactly and rounded once; zeros and infinities go by the rules of IEEE 754, which float64 has too.
func ofReals(o int, off []value) (value, api.Errno) {
	a, b := off[0].bits, uint32(0)
	if len(off) > 1 {
		b = off[1].bits
	}
	x, y := float64(math.Float32frombits(a)), float64(math.Float32frombits(b))
	var r *big.Rat
	if isFinite(a) && isFinite(b) {
		r = new(big.Rat)
	}
	var plain float64
	switch o {
	case api.OpNegF:
		return checkedReal(a ^ 1<<31)
	case api.OpAbsF:
		return checkedReal(a &^ (1 << 31))
	case api.OpMinF, api.OpMaxF:
		// In their order -0 is below 0.
		below := x < y || x == y && math.Signbit(x)
		if below == (o == api.OpMinF) {
			return checkedReal(a)
		}
		return checkedReal(b)
	case api.OpSqrtF:
		return root(a)
	case api.OpAddF:
		plain = x + y
		if r != nil {
			r.Add(exact(a), exact(b))
		}
	case api.OpSubF:
		plain = x - y
		if r != nil {
			r.Sub(exact(a), exact(b))
		}
	case api.OpMulF:
		plain = x * y
		if r != nil {
			r.Mul(exact(a), exact(b))
		}
	case api.OpQuoF:
		plain = x / y
		if r != nil && y != 0 {
			r.Quo(exact(a), exact(b))
		}
	}
	if math.IsNaN(plain) {
		return value{}, api.ErrTrapReal
	}
	if r == nil || r.Sign() == 0 {
		return checkedReal(math.Float32bits(float32(plain)))
	}
	near, _ := r.Float32()
	return checkedReal(math.Float32bits(near)&^(1<<31) | math.Float32bits(float32(math.Copysign(0, plain))))
}

func root(a uint32) (value, api.Errno) {
	switch {
	case a&0x7fffffff == 0 || a == 0x7f800000:
		return checkedReal(a)
	case a>>31 == 1:
		return value{}, api.ErrTrapReal
	}
	n := new(big.Float).SetPrec(300).SetFloat64(float64(math.Float32frombits(a)))
	near, _ := n.Sqrt(n).Float32()
	return checkedReal(math.Float32bits(near))
}

func holds(o int, off []value) bool {
	a := off[0]
	if o == api.OpNot {
		return !a.yes
	}
	b := off[1]
	order := 0
	switch a.kind {
	case 'i':
		order = a.n.Cmp(b.n)
	case 'r':
		x, y := math.Float32frombits(a.bits), math.Float32frombits(b.bits)
		order = new(big.Float).SetFloat64(float64(x)).Cmp(new(big.Float).SetFloat64(float64(y)))
	}
	switch o {
	case api.OpEqI, api.OpEqF:
		return order == 0
	case api.OpLtI, api.OpLtF:
		return order < 0
	case api.OpLeI, api.OpLeF:
		return order <= 0
	case api.OpEqB:
		return a.yes == b.yes
	case api.OpAnd:
		return a.yes && b.yes
	}
	return a.yes || b.yes
}

// units is the integer in six words.
func units(words []uint64) *big.Int {
	n := new(big.Int)
	for i := 5; i >= 0; i-- {
		n.Lsh(n, 64)
		n.Or(n, new(big.Int).SetUint64(words[i]))
	}
	if words[5]>>63 == 1 {
		n.Sub(n, new(big.Int).Lsh(big.NewInt(1), 384))
	}
	return n
}

func put(words []uint64, bits uint32) {
	if !isFinite(bits) {
		return
	}
	r := exact(bits)
	r.Mul(r, new(big.Rat).SetInt(new(big.Int).Lsh(big.NewInt(1), 149)))
	n := units(words)
	n.Add(n, r.Num())
	n.Mod(n, new(big.Int).Lsh(big.NewInt(1), 384))
	for i := range 6 {
		words[i] = new(big.Int).Mod(n, new(big.Int).Lsh(big.NewInt(1), 64)).Uint64()
		n.Rsh(n, 64)
	}
}

func rounded(words []uint64) (value, api.Errno) {
	r := new(big.Rat).SetFrac(units(words), new(big.Int).Lsh(big.NewInt(1), 149))
	near, _ := r.Float32()
	if math.IsInf(float64(near), 0) {
		return value{}, api.ErrTrapReal
	}
	return checkedReal(math.Float32bits(near))
}
