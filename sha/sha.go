// Package sha is layer 1, the sum SHA-256 of bytes, whole and in parts: see shared/doc/01-sha.md.
package sha

import (
	"slices"

	"gatepost/api"
)

// blockSize is how many bytes a block has.
const blockSize = 64

// First answers the first state: the square root bits of the first eight primes.
func First() [8]uint32 {
	var h [8]uint32
	for i, p := range primes(len(h)) {
		h[i] = squareRootBits(p)
	}
	return h
}

// Keys answers the keys: the cubic root bits of the first 64 primes.
func Keys() [64]uint32 {
	var k [64]uint32
	for i, p := range primes(len(k)) {
		k[i] = cubicRootBits(p)
	}
	return k
}

// Block answers the state behind the block b, taken in the state h: ErrArg, unless b has 64 bytes.
func Block(h [8]uint32, b []byte) ([8]uint32, api.Errno) {
	if len(b) != blockSize {
		return [8]uint32{}, api.ErrArg
	}
	h, _ = takeBlocks(h, b)
	return h, api.OK
}

// End answers the end of n bytes: the byte 128, noughts, and 8 n as 64 bits.
func End(n uint64) []byte {
	// 2^64 is a multiple of the block's size, so the place in the block is right for every n.
	used := n%blockSize + 1
	noughts := (blockSize + 56 - used) % blockSize
	end := make([]byte, 1+noughts, 1+noughts+8)
	end[0] = 128
	for i := range 8 {
		end = append(end, byte(n*8>>(56-8*i)))
	}
	return end
}

// Of answers the sum of the parts, one behind the other.
func Of(parts ...[]byte) [32]byte {
	n := uint64(0)
	for _, p := range parts {
		n += uint64(len(p))
	}
	h, _ := takeBlocks(First(), slices.Concat(parts, [][]byte{End(n)})...)
	return wordBytes(h)
}

// New answers a sum of no bytes yet.
func New() api.Sha {
	return api.Sha{H: First()}
}

// Write answers the sum s, gone on with the bytes b.
func Write(s api.Sha, b []byte) api.Sha {
	h, rest := takeBlocks(s.H, s.Rest, b)
	return api.Sha{H: h, Rest: rest, N: s.N + uint64(len(b))}
}

// Sum answers the sum of what was written to s.
func Sum(s api.Sha) [32]byte {
	h, _ := takeBlocks(s.H, s.Rest, End(s.N))
	return wordBytes(h)
}

// wordBytes answers the words of a state as bytes, highest byte first.
func wordBytes(h [8]uint32) [32]byte {
	var b [32]byte
	for i, x := range h {
		for j := range 4 {
			b[4*i+j] = byte(x >> (24 - 8*j))
		}
	}
	return b
}
