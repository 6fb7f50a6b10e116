package ranks

import "sluice/grain"

// mixers are the numbers that Mix multiplies with.
var mixers = [...]uint64{0x9e3779b97f4a7c15, 0xbf58476d1ce4e5b9, 0x94d049bb133111eb}

// Mix makes a number out of a seed and a vertex (P15.1).
func Mix(seed uint64, v uint32) uint64 {
	z := seed + (uint64(v)+1)*mixers[0]
	z = (z ^ z>>30) * mixers[1]
	z = (z ^ z>>27) * mixers[2]
	return z ^ z>>31
}

// Unit makes a float32 from 0 to 1 (as its bits) out of them (P15.1).
func Unit(seed uint64, v uint32) uint32 {
	const taken = 24 // as many bits as a float32 holds
	return grain.Bits(float32(Mix(seed, v)>>(64-taken)) / (1 << taken))
}

// Inside tells whether a vertex is in the set that a seed makes (P15.1).
func Inside(seed uint64, v uint32) bool { return Mix(seed, v)&1 == 1 }
