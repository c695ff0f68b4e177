package frame

import "redraft/api"

// castagnoli: what a register is changed by when a 1 is shifted out of it.
const castagnoli = 0x82f63b78

// shifted: what eight shifts make of a register that holds the number of the entry.
var shifted = shiftAll()

func shiftAll() [256]uint32 {
	var out [256]uint32
	for i := range out {
		out[i] = shiftEight(uint32(i))
	}
	return out
}

func shiftEight(register uint32) uint32 {
	for range 8 {
		out := register & 1
		register >>= 1
		if out == 1 {
			register ^= castagnoli
		}
	}
	return register
}

// Checksum: the CRC-32C of the bytes.
func Checksum(b []byte) api.Sum {
	register := ^uint32(0)
	for _, x := range b {
		// A register is the exclusive or of its lowest byte and the rest, and so is what shifts make of it: the rest only moves.
		register = shifted[byte(register)^x] ^ register>>8
	}
	register = ^register
	return api.Sum{byte(register >> 24), byte(register >> 16), byte(register >> 8), byte(register)}
}
