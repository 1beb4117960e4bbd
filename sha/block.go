package sha

import (
	"math/bits"
	"slices"
)

// takeBlocks takes the whole blocks of the parts, one behind the other, in the state h;
// it answers the state behind them, and, as new memory, the bytes that are no whole block.
func takeBlocks(h [8]uint32, parts ...[]byte) ([8]uint32, []byte) {
	// To reckon the keys costs more than to take some blocks: where there is no block it is left be.
	if !haveBlock(parts) {
		return h, slices.Concat(parts...)
	}
	keys := Keys()
	var block [blockSize]byte
	n := 0
	for _, p := range parts {
		for len(p) > 0 {
			c := copy(block[n:], p)
			p = p[c:]
			n += c
			if n == blockSize {
				h = takeBlock(h, keys, block)
				n = 0
			}
		}
	}
	return h, append([]byte(nil), block[:n]...)
}

// haveBlock tells whether the parts have a block's bytes, together.
func haveBlock(parts [][]byte) bool {
	n := 0
	for _, p := range parts {
		n += len(p)
		if n >= blockSize {
			return true
		}
	}
	return false
}

// takeBlock answers the state behind the block, taken in the state h.
func takeBlock(h [8]uint32, keys [64]uint32, block [blockSize]byte) [8]uint32 {
	words := spread(block)
	s := h
	for t, k := range keys {
		a, b, c, d, e, f, g := s[0], s[1], s[2], s[3], s[4], s[5], s[6]
		t1 := s[7] + turn(e, 6, 11, 25) + (e&f ^ ^e&g) + k + words[t]
		t2 := turn(a, 2, 13, 22) + (a&b ^ a&c ^ b&c)
		s = [8]uint32{t1 + t2, a, b, c, d + t1, e, f, g}
	}
	for i, x := range s {
		h[i] += x
	}
	return h
}

// spread answers the words W(0) .. W(63) of a block.
func spread(block [blockSize]byte) [64]uint32 {
	var w [64]uint32
	for i, x := range block {
		w[i/4] = w[i/4]<<8 | uint32(x)
	}
	for t := 16; t < len(w); t++ {
		s0 := ror(w[t-15], 7) ^ ror(w[t-15], 18) ^ w[t-15]>>3
		s1 := ror(w[t-2], 17) ^ ror(w[t-2], 19) ^ w[t-2]>>10
		w[t] = s1 + w[t-7] + s0 + w[t-16]
	}
	return w
}

// turn answers x turned right by i, by j and by k places, these three by exclusive or.
func turn(x uint32, i, j, k int) uint32 {
	return ror(x, i) ^ ror(x, j) ^ ror(x, k)
}

// ror answers x turned right by n places.
func ror(x uint32, n int) uint32 {
	return bits.RotateLeft32(x, -n)
}
