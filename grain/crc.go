package grain

import "sluice/api"

const polynomial = 0xedb88320

// table tells what a register becomes by eight shifts: of its lowest four bits, and of the four above them. Shifting keeps exclusive or, so the two rows do for one of 256.
var table [2][16]uint32

func init() {
	oneByte := byteShift()
	for i := range uint32(16) {
		table[0][i] = oneByte.of(i)
		table[1][i] = oneByte.of(i << 4)
	}
}

// CRC tells the CRC-32 of parts joined (P1.15).
func CRC(parts ...[]byte) uint32 {
	var sum uint32
	for _, part := range parts {
		sum = More(sum, part)
	}
	return sum
}

// More tells the sum of what gave sum, with b behind it (P1.16).
func More(sum uint32, b []byte) uint32 {
	register := ^sum
	for _, c := range b {
		register ^= uint32(c)
		register = register>>8 ^ table[0][register&15] ^ table[1][register>>4&15]
	}
	return ^register
}

// Join tells the sum of two parts joined from their sums, the second of n bytes (P1.17).
func Join(a, b uint32, n int64) (uint32, api.Errno) {
	if n < 0 || n > api.MaxJoin {
		return 0, api.ErrFit
	}
	power := byteShift()
	for ; n > 0; n >>= 1 {
		if n&1 == 1 {
			a = power.of(a)
		}
		power = power.squared()
	}
	return a ^ b, api.OK
}

// linear is a map of registers that keeps exclusive or: what becomes of each single bit.
type linear [32]uint32

// byteShift is what becomes of a register by eight shifts.
func byteShift() linear {
	shift := linear{polynomial}
	for i := range 31 {
		shift[i+1] = 1 << i
	}
	return shift.squared().squared().squared()
}

// of tells what becomes of a register.
func (m linear) of(register uint32) uint32 {
	var sum uint32
	for i := range 32 {
		sum ^= m[i] & -(register >> i & 1)
	}
	return sum
}

// squared tells the map that does it twice.
func (m linear) squared() linear {
	var twice linear
	for i := range 32 {
		twice[i] = m.of(m[i])
	}
	return twice
}
