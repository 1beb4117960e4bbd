// Package probe is for the packages' tests alone: bytes to hand in, and whether they stay as they are.
package probe

import "slices"

// room is how many items stand behind the end of what Guarded and GuardedRow answer.
const room = 100

// Bytes answers n bytes that look like chance, and hang on the seed alone.
func Bytes(seed int64, n int) []byte {
	b := make([]byte, n)
	x := uint64(seed)
	for i := range b {
		x += 0x9e3779b97f4a7c15
		y := (x ^ x>>30) * 0xbf58476d1ce4e5b9
		y = (y ^ y>>27) * 0x94d049bb133111eb
		b[i] = byte(y >> 56)
	}
	return b
}

// Guarded answers a copy of b with room behind its end, and a call that tells whether both are as they were.
func Guarded(b []byte) (got []byte, stays func() bool) { return GuardedRow(b, 0xa5) }

// GuardedRow is Guarded for rows of any kind; behind stands in the room.
func GuardedRow[T comparable](l []T, behind T) (got []T, stays func() bool) {
	whole := append(slices.Clone(l), slices.Repeat([]T{behind}, room)...)
	before := slices.Clone(whole)
	return whole[: len(l) : len(l)+room], func() bool { return slices.Equal(whole, before) }
}

// Scrub makes each byte of b, and of the room behind its end, another one.
func Scrub(b []byte) {
	b = b[:cap(b)]
	for i := range b {
		b[i] ^= 0x5a
	}
}
