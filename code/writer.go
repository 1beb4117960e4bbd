package code

import "slices"

// Writer has bytes, field behind field.
type Writer struct {
	row  *[]byte // its bytes, and behind them those that a copy of it has written since
	size int     // how many of them are its own
}

// NewWriter answers a writer without bytes.
func NewWriter() *Writer { return &Writer{} }

// U8 writes x as one byte.
func (w *Writer) U8(x uint8) { w.add(x) }

// U32 writes x as four bytes, the least one first.
func (w *Writer) U32(x uint32) {
	var b [len(placesOfU32)]byte
	for i, place := range placesOfU32 {
		b[i] = byte(x >> place)
	}
	w.add(b[:]...)
}

// Uint writes x as LEB128 of the fewest bytes.
func (w *Writer) Uint(x uint64) {
	var b [len(placesOfUint)]byte
	for i, place := range placesOfUint {
		left := x >> place
		if left < more {
			b[i] = byte(left)
			w.add(b[:i+1]...)
			return
		}
		b[i] = byte(left) | more
	}
}

// Put writes each of the numbers as Uint.
func (w *Writer) Put(l ...uint64) {
	for _, x := range l {
		w.Uint(x)
	}
}

// Text writes how many bytes s has, and these.
func (w *Writer) Text(s string) {
	w.Uint(uint64(len(s)))
	w.add([]byte(s)...)
}

// Raw writes b as it is.
func (w *Writer) Raw(b []byte) { w.add(b...) }

// Bytes answers what was written.
func (w *Writer) Bytes() []byte {
	if w == nil || w.row == nil {
		return nil
	}
	return slices.Clone((*w.row)[:w.size])
}

// add puts b behind what the writer has.
func (w *Writer) add(b ...byte) {
	if w == nil {
		return
	}
	// Where a Writer was copied, both have the same row: who comes second must not write over the other's bytes.
	if w.row == nil || len(*w.row) != w.size {
		own := w.Bytes()
		w.row = &own
	}
	*w.row = append(*w.row, b...)
	w.size = len(*w.row)
}
