package code_test

import (
	"bytes"
	"encoding/binary"
	"math"
	"math/rand"
	"testing"

	"gatepost/api"
	"gatepost/code"
	"gatepost/probe"
)

// The sizes of texts and of raw bytes at the edges of a size's one byte, of its two, and beyond.
var sizes = []int{0, 1, 2, 126, 127, 128, 129, 16383, 16384, 16385, 70000}

// edges are the numbers at each step of one bit, and so at each of seven, up to the greatest.
func edges() []uint64 {
	l := []uint64{0, 300, math.MaxUint64}
	for bit := range 64 {
		x := uint64(1) << bit
		l = append(l, x-1, x, x+1)
	}
	return l
}

// field is one field: its kind and what it is.
type field struct {
	kind string
	x    uint64
	b    []byte
}

// written answers the field's bytes, as the library's own writing has them.
func (f field) written() []byte {
	switch f.kind {
	case "U8":
		return []byte{byte(f.x)}
	case "U32":
		return binary.LittleEndian.AppendUint32(nil, uint32(f.x))
	case "Uint":
		return binary.AppendUvarint(nil, f.x)
	case "Text":
		return append(binary.AppendUvarint(nil, uint64(len(f.b))), f.b...)
	}
	return f.b
}

// write has w write the field.
func (f field) write(w *code.Writer) {
	switch f.kind {
	case "U8":
		w.U8(uint8(f.x))
	case "U32":
		w.U32(uint32(f.x))
	case "Uint":
		w.Uint(f.x)
	case "Text":
		w.Text(string(f.b))
	case "Raw":
		w.Raw(f.b)
	}
}

// read has r read a field of f's kind, of a text by the bound len(f.b), of raw bytes as many as f has.
func (f field) read(r *code.Reader) field {
	got := field{kind: f.kind}
	switch f.kind {
	case "U8":
		got.x = uint64(r.U8())
	case "U32":
		got.x = uint64(r.U32())
	case "Uint":
		got.x = r.Uint()
	case "Text":
		got.b = []byte(r.Text(len(f.b)))
	case "Raw":
		got.b = r.Raw(len(f.b))
	}
	return got
}

func (f field) same(g field) bool { return f.kind == g.kind && f.x == g.x && bytes.Equal(f.b, g.b) }

func (f field) nothing() bool { return f.x == 0 && len(f.b) == 0 }

// fields are fields of each kind, at their edges.
func fields() []field {
	var l []field
	for x := range uint64(256) {
		l = append(l, field{kind: "U8", x: x})
	}
	for _, x := range edges() {
		l = append(l, field{kind: "Uint", x: x})
		if x <= math.MaxUint32 {
			l = append(l, field{kind: "U32", x: x})
		}
	}
	for i, n := range sizes {
		b := probe.Bytes(int64(i), n)
		l = append(l, field{kind: "Text", b: b}, field{kind: "Raw", b: b})
	}
	for _, s := range []string{"ab", "a\x00b", "\x00", "käse", "\xff\xfe", "\x80\x01", "\r\n"} {
		l = append(l, field{kind: "Text", b: []byte(s)}, field{kind: "Raw", b: []byte(s)})
	}
	return l
}

// anyField answers a field of any kind; r says which.
func anyField(r *rand.Rand) field {
	f := field{kind: []string{"U8", "U32", "Uint", "Text", "Raw"}[r.Intn(5)]}
	switch f.kind {
	case "U8":
		f.x = uint64(uint8(r.Uint32()))
	case "U32":
		f.x = uint64(r.Uint32() >> r.Intn(32))
	case "Uint":
		f.x = r.Uint64() >> r.Intn(64)
	default:
		f.b = probe.Bytes(r.Int63(), r.Intn(200)>>r.Intn(8))
	}
	return f
}

// anyRow answers a row of fields, and its bytes.
func anyRow(r *rand.Rand) (row []field, b []byte) {
	for range r.Intn(20) {
		f := anyField(r)
		row, b = append(row, f), append(b, f.written()...)
	}
	return row, b
}

// checkReader tells if r is not as it should be, or goes on when it should not.
func checkReader(t *testing.T, told string, r *code.Reader, err api.Errno, left int) {
	t.Helper()
	if r.Err() != err || r.Left() != left {
		t.Errorf("%s: Err %d, Left %d; want %d, %d", told, r.Err(), r.Left(), err, left)
	}
}

// checkStopped tells if r is not stopped, answers anything, or takes anything; this many bytes are left.
func checkStopped(t *testing.T, told string, r *code.Reader, left int) {
	t.Helper()
	checkReader(t, told, r, api.ErrForm, left)
	asks := []struct {
		told    string
		nothing func() bool
	}{
		{"U8", func() bool { return r.U8() == 0 }},
		{"U32", func() bool { return r.U32() == 0 }},
		{"Uint", func() bool { return r.Uint() == 0 }},
		{"Text(-1)", func() bool { return r.Text(-1) == "" }},
		{"Text(0)", func() bool { return r.Text(0) == "" }},
		{"Text of any size", func() bool { return r.Text(math.MaxInt) == "" }},
		{"Raw(-1)", func() bool { return len(r.Raw(-1)) == 0 }},
		{"Raw(0)", func() bool { return len(r.Raw(0)) == 0 }},
		{"Raw(1)", func() bool { return len(r.Raw(1)) == 0 }},
		{"Raw of all that is left", func() bool { return len(r.Raw(r.Left())) == 0 }},
		{"Fail", func() bool { r.Fail(); return true }},
		{"End", func() bool { return r.End() == api.ErrForm }},
		{"U8 behind End", func() bool { return r.U8() == 0 }},
	}
	for _, ask := range asks {
		if !ask.nothing() {
			t.Errorf("%s, stopped, %s: answers something", told, ask.told)
		}
		checkReader(t, told+", stopped, "+ask.told, r, api.ErrForm, left)
	}
}
