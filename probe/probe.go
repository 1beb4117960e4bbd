// Package probe is for the packages' tests alone: bytes and texts to hand in, and whether they stay as they are.
package probe

import (
	"iter"
	"slices"
	"strings"
)

// room is how many items stand behind the end of what Guarded and GuardedRow answer.
const room = 100

// Bytes answers n bytes that look like chance, and hang on the seed alone.
func Bytes(seed int64, n int) []byte {
	b := make([]byte, n)
	x := uint64(seed)
	for i := range b {
		x += 0x9e3779b97f4a7c15
		y := (x ^ x>>30) * 0xbf58476d1ce4e5b9
		y = (y ^ y>>27) * 0x94d049bb133111eb
		b[i] = byte(y >> 56)
	}
	return b
}

// Guarded answers a copy of b with room behind its end, and a call that tells whether both are as they were.
func Guarded(b []byte) (got []byte, stays func() bool) { return GuardedRow(b, 0xa5) }

// GuardedRow is Guarded for rows of any kind; behind stands in the room.
func GuardedRow[T comparable](l []T, behind T) (got []T, stays func() bool) {
	whole := append(slices.Clone(l), slices.Repeat([]T{behind}, room)...)
	before := slices.Clone(whole)
	return whole[: len(l) : len(l)+room], func() bool { return slices.Equal(whole, before) }
}

// Scrub makes each byte of b, and of the room behind its end, another one.
func Scrub(b []byte) {
	b = b[:cap(b)]
	for i := range b {
		b[i] ^= 0x5a
	}
}

// Rows answers all rows of at most most of the items, the shorter ones first.
func Rows[T any](most int, items ...T) [][]T {
	rows := [][]T{nil}
	for from := 0; most > 0; most-- {
		to := len(rows)
		for _, l := range rows[from:to] {
			for _, x := range items {
				rows = append(rows, append(slices.Clone(l), x))
			}
		}
		from = to
	}
	return rows
}

// Texts answers all texts that at most most of the parts make, those of fewer parts first.
func Texts(most int, parts ...string) []string {
	var texts []string
	for _, l := range Rows(most, parts...) {
		texts = append(texts, strings.Join(l, ""))
	}
	return texts
}

// Near answers s, its beginnings and its ends, and each text that has a byte more than it, anywhere, or another one in the place of one of its.
func Near(s string) iter.Seq[string] {
	return func(yield func(string) bool) {
		for i := range len(s) + 1 {
			if !yield(s[:i]) || !yield(s[i:]) {
				return
			}
			for x := range 256 {
				b := string([]byte{byte(x)})
				if !yield(s[:i]+b+s[i:]) || i < len(s) && !yield(s[:i]+b+s[i+1:]) {
					return
				}
			}
		}
	}
}

// Edited answers s with up to two bytes put in, of the letters, taken out or changed; choose answers a number from 0 to below n.
func Edited(s, letters string, choose func(n int) int) string {
	b := []byte(s)
	for range choose(3) {
		i := choose(len(b) + 1)
		x := letters[choose(len(letters))]
		switch {
		case choose(3) == 0 || i == len(b):
			b = slices.Insert(b, i, x)
		case choose(2) == 0:
			b = slices.Delete(b, i, i+1)
		default:
			b[i] = x
		}
	}
	return string(b)
}
