package code

import (
	"slices"

	"gatepost/api"
)

// Reader takes fields from the front of bytes, till it is stopped.
type Reader struct {
	left    []byte
	stopped bool
}

// NewReader answers a reader of b.
func NewReader(b []byte) *Reader { return &Reader{left: slices.Clone(b)} }

// take takes what cut finds at the front of the bytes that are left: cut answers it, what is behind it, and whether it is there.
func take[T any](r *Reader, cut func(left []byte) (field T, behind []byte, ok bool)) T {
	var none T
	if r.Err() != api.OK {
		return none
	}
	field, behind, ok := cut(r.left)
	if !ok {
		r.Fail()
		return none
	}
	r.left = behind
	return field
}

// U8 takes one byte.
func (r *Reader) U8() uint8 {
	return take(r, func(left []byte) (uint8, []byte, bool) {
		if len(left) == 0 {
			return 0, nil, false
		}
		return left[0], left[1:], true
	})
}

// U32 takes four bytes, the least one first.
func (r *Reader) U32() uint32 {
	return take(r, func(left []byte) (uint32, []byte, bool) {
		if len(left) < len(placesOfU32) {
			return 0, nil, false
		}
		var x uint32
		for i, place := range placesOfU32 {
			x |= uint32(left[i]) << place
		}
		return x, left[len(placesOfU32):], true
	})
}

// Uint takes a number that is written as LEB128 of the fewest bytes.
func (r *Reader) Uint() uint64 { return take(r, cutUint) }

// Text takes a text of at most so many bytes.
func (r *Reader) Text(most int) string {
	return take(r, func(left []byte) (string, []byte, bool) {
		size, behind, ok := cutUint(left)
		// The sizes are compared as uint64: one that is not an int must not become another one.
		if !ok || most < 0 || size > uint64(most) || size > uint64(len(behind)) {
			return "", nil, false
		}
		return string(behind[:size]), behind[size:], true
	})
}

// Raw takes n bytes.
func (r *Reader) Raw(n int) []byte {
	return take(r, func(left []byte) ([]byte, []byte, bool) {
		if n < 0 || n > len(left) {
			return nil, nil, false
		}
		return slices.Clone(left[:n]), left[n:], true
	})
}

// Left answers how many bytes are not taken.
func (r *Reader) Left() int {
	if r == nil {
		return 0
	}
	return len(r.left)
}

// Fail stops the reader.
func (r *Reader) Fail() {
	if r != nil {
		r.stopped = true
	}
}

// Err answers api.ErrForm of a reader that is stopped.
func (r *Reader) Err() api.Errno {
	if r == nil || r.stopped {
		return api.ErrForm
	}
	return api.OK
}

// End stops the reader if bytes are left, and answers as Err.
func (r *Reader) End() api.Errno {
	if r.Left() > 0 {
		r.Fail()
	}
	return r.Err()
}

// cutUint cuts a Uint from the front of b: the number, and what is behind it.
func cutUint(b []byte) (x uint64, behind []byte, ok bool) {
	for i, place := range placesOfUint {
		if i == len(b) {
			return 0, nil, false
		}
		bits := uint64(b[i] &^ more)
		tooWide := bits<<place>>place != bits
		tooLong := b[i] == 0 && i > 0 // the bytes ahead say as much
		if tooWide || tooLong {
			return 0, nil, false
		}
		x |= bits << place
		if b[i] < more {
			return x, b[i+1:], true
		}
	}
	return 0, nil, false
}
