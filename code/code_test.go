package code_test

import (
	"bytes"
	"encoding/binary"
	"fmt"
	"math"
	"math/rand"
	"slices"
	"strings"
	"testing"

	"gatepost/api"
	"gatepost/code"
	"gatepost/probe"
)

func TestP3_1Examples(t *testing.T) {
	w := code.NewWriter()
	if b := w.Bytes(); len(b) != 0 {
		t.Errorf("at first: %x", b)
	}
	steps := []struct {
		write func()
		want  string
	}{
		{func() { w.U8(7) }, "\x07"},
		{func() { w.U32(258) }, "\x02\x01\x00\x00"},
		{func() { w.Uint(300) }, "\xac\x02"},
		{func() { w.Text("ab") }, "\x02ab"},
		{func() { w.Raw([]byte{5, 6}) }, "\x05\x06"},
		{func() { w.Put(0, 127, 128) }, "\x00\x7f\x80\x01"},
		{func() { w.Put() }, ""},
		{func() { w.Raw(nil) }, ""},
		{func() { w.Text("") }, "\x00"},
		{func() { w.U32(0x01020304) }, "\x04\x03\x02\x01"},
		{func() { w.U32(math.MaxUint32) }, "\xff\xff\xff\xff"},
		{func() { w.Uint(math.MaxUint64) }, "\xff\xff\xff\xff\xff\xff\xff\xff\xff\x01"},
	}
	want := ""
	for i, x := range steps {
		x.write()
		want += x.want
		if b := w.Bytes(); string(b) != want {
			t.Errorf("step %d: %x, want %x", i, b, want)
		}
	}
}

func TestP3_1EachField(t *testing.T) {
	all := code.NewWriter()
	var want []byte
	for _, f := range fields() {
		w := code.NewWriter()
		f.write(w)
		if !bytes.Equal(w.Bytes(), f.written()) {
			t.Errorf("%s %d, %d bytes: %x, want %x", f.kind, f.x, len(f.b), w.Bytes(), f.written())
		}
		f.write(all)
		want = append(want, f.written()...)
	}
	if !bytes.Equal(all.Bytes(), want) {
		t.Error("all fields, one behind the other: other bytes")
	}
}

func TestP3_1Put(t *testing.T) {
	row := edges()
	for n := range len(row) + 1 {
		w := code.NewWriter()
		w.U8(9)
		w.Put(row[:n]...)
		want := []byte{9}
		for _, x := range row[:n] {
			want = binary.AppendUvarint(want, x)
		}
		if !bytes.Equal(w.Bytes(), want) {
			t.Errorf("%d numbers: %x, want %x", n, w.Bytes(), want)
		}
	}
}

// Asking for the bytes takes none of them.
func TestP3_1BytesStay(t *testing.T) {
	w := code.NewWriter()
	for n := range 300 {
		if b := w.Bytes(); len(b) != n || !bytes.Equal(b, w.Bytes()) {
			t.Errorf("%d bytes written, %x", n, b)
		}
		w.U8(uint8(n))
	}
}

// Whatever stands behind a field, that field is taken, and no more.
func TestP3_2EachField(t *testing.T) {
	for _, f := range fields() {
		for _, behind := range []string{"", "\x00", "\x80", "\xff\xff", "behind"} {
			r := code.NewReader(append(f.written(), behind...))
			told := fmt.Sprintf("%s %d, %d bytes, ahead of %q", f.kind, f.x, len(f.b), behind)
			if got := f.read(r); !f.same(got) {
				t.Errorf("%s: %d, %x", told, got.x, got.b)
			}
			checkReader(t, told, r, api.OK, len(behind))
			if rest := r.Raw(r.Left()); string(rest) != behind {
				t.Errorf("%s: behind it %q", told, rest)
			}
		}
	}
}

// Each kind, where its bytes are not all there.
func TestP3_2Missing(t *testing.T) {
	for _, f := range fields() {
		b := f.written()
		for _, n := range []int{0, 1, 2, 3, len(b) - 2, len(b) - 1} {
			if n < 0 || n >= len(b) {
				continue
			}
			r := code.NewReader(b[:n])
			told := fmt.Sprintf("%s %d, %d bytes, cut at %d", f.kind, f.x, len(f.b), n)
			if got := f.read(r); !got.nothing() {
				t.Errorf("%s: %d, %x", told, got.x, got.b)
			}
			checkStopped(t, told, r, n)
		}
	}
}

// libraryUint answers the number at the front of b, and how many bytes it has: none, if they are not the fewest.
func libraryUint(b []byte) (x uint64, n int) {
	x, n = binary.Uvarint(b)
	if n <= 0 || len(binary.AppendUvarint(nil, x)) != n {
		return 0, 0
	}
	return x, n
}

// checkUint tells if the number at the front of b is read otherwise than the library has it.
func checkUint(t *testing.T, b []byte) {
	t.Helper()
	r := code.NewReader(b)
	x, n := libraryUint(b)
	if got := r.Uint(); got != x {
		t.Errorf("%x: %d, want %d", b, got, x)
	}
	if n == 0 {
		checkStopped(t, fmt.Sprintf("%x", b), r, len(b))
		return
	}
	checkReader(t, fmt.Sprintf("%x", b), r, api.OK, len(b)-n)
}

func TestP3_2UintOfAllShortBytes(t *testing.T) {
	checkUint(t, nil)
	for x := range 256 {
		checkUint(t, []byte{byte(x)})
		for y := range 256 {
			checkUint(t, []byte{byte(x), byte(y)})
			checkUint(t, []byte{byte(x), 0x80, byte(y)})
			checkUint(t, []byte{byte(x), byte(y), 0x01})
		}
	}
}

func TestP3_2UintOfLongBytes(t *testing.T) {
	for _, ahead := range []byte{0x80, 0x81, 0xc0, 0xff} {
		for n := range 15 {
			for last := range 256 {
				checkUint(t, append(bytes.Repeat([]byte{ahead}, n), byte(last)))
				checkUint(t, append(bytes.Repeat([]byte{ahead}, n), byte(last), 0x01))
			}
		}
	}
	r := rand.New(rand.NewSource(1))
	for range 20000 {
		b := make([]byte, 1+r.Intn(12))
		for i := range b {
			b[i] = byte(r.Uint32()) | 0x80
		}
		b[len(b)-1] &= byte(r.Uint32())
		checkUint(t, b)
	}
}

func TestP3_2UintWrong(t *testing.T) {
	tests := []struct{ told, b string }{
		{"no bytes", ""},
		{"no end", "\x80"},
		{"no end, ten bytes", strings.Repeat("\xff", 10)},
		{"no end, twenty bytes", strings.Repeat("\x80", 20)},
		{"a nought of two bytes", "\x80\x00"},
		{"127 of two bytes", "\xff\x00"},
		{"128 of three bytes", "\x80\x81\x00"},
		{"a nought of ten bytes", strings.Repeat("\x80", 9) + "\x00"},
		{"65 bits", strings.Repeat("\x80", 9) + "\x02"},
		{"65 bits, the greatest and one", strings.Repeat("\xff", 9) + "\x03"},
		{"70 bits", strings.Repeat("\xff", 9) + "\x7f"},
		{"eleven bytes", strings.Repeat("\x80", 10) + "\x01"},
		{"eleven bytes, that would go round to 1", "\x81" + strings.Repeat("\x80", 9) + "\x01"},
		{"eleven bytes, a nought last", strings.Repeat("\xff", 9) + "\x81\x00"},
	}
	for _, x := range tests {
		r := code.NewReader([]byte(x.b))
		if got := r.Uint(); got != 0 {
			t.Errorf("%s: %d", x.told, got)
		}
		checkStopped(t, x.told, r, len(x.b))
		r = code.NewReader([]byte(x.b + "abc"))
		if s := r.Text(math.MaxInt); s != "" {
			t.Errorf("%s, as a text's size: %q", x.told, s)
		}
		checkReader(t, x.told+", as a text's size", r, api.ErrForm, len(x.b)+3)
	}
}

// A size that says more bytes than are there; some would be less than none as an int, or go round as a sum.
func TestP3_2TextOfTooMany(t *testing.T) {
	for _, size := range append(edges(), math.MaxInt64-1, math.MaxUint64-1, math.MaxUint64-9) {
		for _, there := range []string{"", "a", "abc"} {
			if size <= uint64(len(there)) {
				continue
			}
			for _, most := range []int{-1, 0, 3, 4, math.MaxInt32, math.MaxInt - 1, math.MaxInt} {
				b := append(binary.AppendUvarint(nil, size), there...)
				r := code.NewReader(b)
				told := fmt.Sprintf("a text of %d bytes, %d there, Text(%d)", size, len(there), most)
				if s := r.Text(most); s != "" {
					t.Errorf("%s: %q", told, s)
				}
				checkStopped(t, told, r, len(b))
			}
		}
	}
}

func TestP3_2Raw(t *testing.T) {
	b := []byte("abc")
	for _, n := range []int{math.MinInt, -1 << 32, -2, -1, 0, 1, 2, 3, 4, 5, 1 << 32, math.MaxInt - 1, math.MaxInt} {
		r := code.NewReader(b)
		got, told := r.Raw(n), fmt.Sprintf("Raw(%d) of 3 bytes", n)
		if n < 0 || n > len(b) {
			if len(got) != 0 {
				t.Errorf("%s: %q", told, got)
			}
			checkStopped(t, told, r, len(b))
			continue
		}
		if string(got) != "abc"[:n] {
			t.Errorf("%s: %q", told, got)
		}
		checkReader(t, told, r, api.OK, len(b)-n)
	}
	for _, n := range []int{-1, 1} {
		r := code.NewReader(nil)
		if got := r.Raw(n); len(got) != 0 {
			t.Errorf("Raw(%d) of none: %q", n, got)
		}
		checkStopped(t, fmt.Sprintf("Raw(%d) of none", n), r, 0)
	}
}

func TestP3_3Left(t *testing.T) {
	b := []byte("\x07\x02\x01\x00\x00\xac\x02\x02ab\x05\x06")
	r := code.NewReader(b)
	checkReader(t, "at first", r, api.OK, 12)
	r.U8()
	checkReader(t, "behind U8", r, api.OK, 11)
	r.U32()
	checkReader(t, "behind U32", r, api.OK, 7)
	r.Uint()
	checkReader(t, "behind Uint", r, api.OK, 5)
	r.Text(64)
	checkReader(t, "behind Text", r, api.OK, 2)
	r.Raw(0)
	checkReader(t, "behind Raw(0)", r, api.OK, 2)
	r.Raw(2)
	checkReader(t, "behind Raw(2)", r, api.OK, 0)
	r.U8()
	checkStopped(t, "behind all", r, 0)
}

func TestP3_3Fail(t *testing.T) {
	b := []byte("\x01abc")
	for taken := range len(b) + 1 {
		r := code.NewReader(b)
		r.Raw(taken)
		r.Fail()
		checkStopped(t, fmt.Sprintf("Fail behind %d bytes", taken), r, len(b)-taken)
	}
}

func TestP3_3End(t *testing.T) {
	b := []byte("\x01abc")
	for taken := range b {
		r := code.NewReader(b)
		r.Raw(taken)
		told := fmt.Sprintf("End behind %d of 4 bytes", taken)
		if err := r.End(); err != api.ErrForm {
			t.Errorf("%s: %d", told, err)
		}
		checkStopped(t, told, r, len(b)-taken)
	}
}

// Where no bytes are left, End stops nothing; what was stopped stays so.
func TestP3_3EndOfAll(t *testing.T) {
	r := code.NewReader([]byte("ab"))
	r.Raw(2)
	for range 2 {
		if err := r.End(); err != api.OK {
			t.Errorf("End behind all: %d", err)
		}
		checkReader(t, "behind End", r, api.OK, 0)
	}
	r.Raw(0)
	checkReader(t, "Raw(0) behind End", r, api.OK, 0)
	r.U8()
	if err := r.End(); err != api.ErrForm {
		t.Errorf("End behind a field that is not there: %d", err)
	}
	r = code.NewReader(nil)
	if err := r.End(); err != api.OK {
		t.Errorf("End of no bytes: %d", err)
	}
	r.Fail()
	if err := r.End(); err != api.ErrForm {
		t.Errorf("End of no bytes, behind Fail: %d", err)
	}
}

func TestP3_4ZeroWriter(t *testing.T) {
	var zero code.Writer
	if b := zero.Bytes(); len(b) != 0 {
		t.Errorf("a zero Writer: %x", b)
	}
	for _, f := range fields() {
		w := new(code.Writer)
		f.write(w)
		if !bytes.Equal(w.Bytes(), f.written()) {
			t.Errorf("a zero Writer, %s %d, %d bytes: %x", f.kind, f.x, len(f.b), w.Bytes())
		}
		f.write(&zero)
	}
	var other code.Writer
	if b := other.Bytes(); len(b) != 0 {
		t.Errorf("another zero Writer: %x", b)
	}
	other.Put(1, 2)
	if b := other.Bytes(); string(b) != "\x01\x02" {
		t.Errorf("a zero Writer, Put: %x", b)
	}
}

func TestP3_4NilWriter(t *testing.T) {
	var w *code.Writer
	for _, f := range fields() {
		f.write(w)
		if b := w.Bytes(); len(b) != 0 {
			t.Errorf("a nil Writer, %s: %x", f.kind, b)
		}
	}
	w.Put()
	w.Put(edges()...)
	if b := w.Bytes(); len(b) != 0 {
		t.Errorf("a nil Writer, Put: %x", b)
	}
}

func TestP3_4ZeroReader(t *testing.T) {
	checkReader(t, "a zero Reader", &code.Reader{}, api.OK, 0)
	if r := new(code.Reader); len(r.Raw(0)) != 0 || r.End() != api.OK {
		t.Error("a zero Reader: stopped by Raw(0), or by End")
	}
	asks := map[string]func(r *code.Reader) bool{
		"U8":     func(r *code.Reader) bool { return r.U8() == 0 },
		"U32":    func(r *code.Reader) bool { return r.U32() == 0 },
		"Uint":   func(r *code.Reader) bool { return r.Uint() == 0 },
		"Text":   func(r *code.Reader) bool { return r.Text(9) == "" },
		"Raw(1)": func(r *code.Reader) bool { return len(r.Raw(1)) == 0 },
		"Raw-1":  func(r *code.Reader) bool { return len(r.Raw(-1)) == 0 },
		"Fail":   func(r *code.Reader) bool { r.Fail(); return true },
	}
	for told, nothing := range asks {
		var r code.Reader
		if !nothing(&r) {
			t.Errorf("a zero Reader, %s: answers something", told)
		}
		checkStopped(t, "a zero Reader, "+told, &r, 0)
	}
}

func TestP3_4NilReader(t *testing.T) {
	checkStopped(t, "a nil Reader", nil, 0)
	if r := code.NewReader(nil); r == nil || code.NewWriter() == nil {
		t.Error("New answers nil")
	}
	for _, b := range [][]byte{nil, {}} {
		checkReader(t, "a Reader of no bytes", code.NewReader(b), api.OK, 0)
	}
}

func TestP3_4HandedInStays(t *testing.T) {
	for _, n := range sizes {
		b, bytesStay := probe.Guarded(probe.Bytes(1, n))
		w := code.NewWriter()
		w.Raw(b)
		w.Text("behind")
		w.Raw(b)
		r := code.NewReader(b)
		for _, f := range []field{{kind: "U8"}, {kind: "U32"}, {kind: "Raw", b: []byte("abc")}, {kind: "Uint"}, {kind: "Text"}} {
			f.read(r)
			f.read(code.NewReader(b))
		}
		if !bytesStay() {
			t.Errorf("%d bytes: what was handed in has changed", n)
		}
	}
	numbers := []uint64{1, 300, 1 << 40, 7, 7}
	w := code.NewWriter()
	w.Put(numbers[:3]...)
	w.Put(numbers[:0]...)
	if !slices.Equal(numbers, []uint64{1, 300, 1 << 40, 7, 7}) {
		t.Errorf("numbers that were put: %d", numbers)
	}
}

func TestP3_4HandedInIsNotKept(t *testing.T) {
	for _, n := range sizes {
		want := probe.Bytes(1, n)
		b, _ := probe.Guarded(want)
		w, r := code.NewWriter(), code.NewReader(b)
		w.Raw(b)
		probe.Scrub(b)
		if !bytes.Equal(w.Bytes(), want) {
			t.Errorf("%d bytes: those of the writer have changed", n)
		}
		if got := r.Raw(n); !bytes.Equal(got, want) {
			t.Errorf("%d bytes: those of the reader have changed", n)
		}
	}
	numbers := []uint64{1, 2}
	w := code.NewWriter()
	w.Put(numbers...)
	numbers[0] = 9
	if b := w.Bytes(); string(b) != "\x01\x02" {
		t.Errorf("numbers that were put have changed: %x", b)
	}
}

// What is done to the bytes of an answer, and to the room behind its end, changes neither the writer nor other answers.
func TestP3_4WriterAnswersAreNew(t *testing.T) {
	for _, n := range sizes {
		w, want := code.NewWriter(), probe.Bytes(2, n)
		w.Raw(want)
		first, second := w.Bytes(), w.Bytes()
		probe.Scrub(first)
		if !bytes.Equal(second, want) || !bytes.Equal(w.Bytes(), want) {
			t.Errorf("%d bytes: an answer shares memory with the writer, or with another one", n)
		}
		third := w.Bytes()
		w.Text("behind")
		w.Raw(want)
		probe.Scrub(second)
		if !bytes.Equal(third, want) {
			t.Errorf("%d bytes: an answer has changed", n)
		}
		if all := slices.Concat(want, []byte("\x06behind"), want); !bytes.Equal(w.Bytes(), all) {
			t.Errorf("%d bytes: what was written has changed", n)
		}
	}
}

func TestP3_4ReaderAnswersAreNew(t *testing.T) {
	for _, n := range sizes {
		b := append(probe.Bytes(3, n), "\x02ab behind"...)
		r := code.NewReader(b)
		first := r.Raw(n)
		kept := slices.Clone(first)
		probe.Scrub(first)
		none := r.Raw(0)
		probe.Scrub(none)
		if s := r.Text(2); s != "ab" {
			t.Errorf("%d bytes: an answer shares memory with the reader: %q", n, s)
		}
		second := r.Raw(r.Left())
		if string(second) != " behind" || !bytes.Equal(kept, b[:n]) {
			t.Errorf("%d bytes: an answer shares memory with the reader: %q", n, second)
		}
		probe.Scrub(second)
		if !bytes.HasSuffix(b, []byte("\x02ab behind")) {
			t.Errorf("%d bytes: an answer shares memory with what was handed in", n)
		}
	}
	r := code.NewReader([]byte("abc"))
	copied := *r
	probe.Scrub(r.Raw(3))
	if got := copied.Raw(3); string(got) != "abc" {
		t.Errorf("a copy of a reader: %q", got)
	}
}

// A Writer's copy has what the Writer had; what either writes from then on is its own.
func TestP3_4CopiesOfWriters(t *testing.T) {
	for n := range 100 {
		first := code.NewWriter()
		first.Raw(probe.Bytes(4, n))
		second := *first
		third := second
		first.U8(1)
		second.Put(2, 300)
		third.Text("c")
		fourth := *first
		*first = third
		first.U8(4)
		for i, x := range []struct {
			w    *code.Writer
			want string
		}{{first, "\x01c\x04"}, {&second, "\x02\xac\x02"}, {&third, "\x01c"}, {&fourth, "\x01"}} {
			if want := string(probe.Bytes(4, n)) + x.want; string(x.w.Bytes()) != want {
				t.Errorf("%d bytes, copy %d: %x, want %x", n, i, x.w.Bytes(), want)
			}
		}
	}
}

func TestP3_5ReadAsWritten(t *testing.T) {
	r := rand.New(rand.NewSource(2))
	for range 2000 {
		row, want := anyRow(r)
		w := code.NewWriter()
		for _, f := range row {
			f.write(w)
		}
		if !bytes.Equal(w.Bytes(), want) {
			t.Fatalf("%v: %x, want %x", row, w.Bytes(), want)
		}
		reader := code.NewReader(w.Bytes())
		for i, f := range row {
			if got := f.read(reader); !f.same(got) {
				t.Errorf("%v, field %d: %v", row, i, got)
			}
		}
		if reader.End() != api.OK || reader.Left() != 0 {
			t.Errorf("%v: %d bytes are left", row, reader.Left())
		}
	}
}

func TestP3_6CutShort(t *testing.T) {
	r := rand.New(rand.NewSource(3))
	for range 200 {
		row, b := anyRow(r)
		for n := range b {
			reader, at := code.NewReader(b[:n]), 0
			for i, f := range row {
				end := at + len(f.written())
				got := f.read(reader)
				if end > n {
					if !got.nothing() {
						t.Errorf("%v, cut at %d, field %d: %v", row, n, i, got)
					}
					checkStopped(t, fmt.Sprintf("%v, cut at %d, field %d", row, n, i), reader, n-at)
					break
				}
				if !f.same(got) || reader.Err() != api.OK {
					t.Errorf("%v, cut at %d, field %d: %v", row, n, i, got)
				}
				at = end
			}
		}
	}
}

// Whatever bytes are read, by whatever kinds: what was taken is what is written of what was answered.
func TestP3_7OneForm(t *testing.T) {
	r := rand.New(rand.NewSource(4))
	stops := 0
	for seed := range int64(20000) {
		b := probe.Bytes(seed, r.Intn(40))
		for i := range b {
			b[i] >>= r.Intn(8) // short sizes, and noughts behind other bytes, are to come often
		}
		reader, w := code.NewReader(b), code.NewWriter()
		for range 6 {
			before := reader.Left()
			got := anyField(r).read(reader)
			if reader.Err() != api.OK {
				stops++
				checkReader(t, fmt.Sprintf("%x, stopped", b), reader, api.ErrForm, before)
				break
			}
			got.write(w)
		}
		if taken := b[:len(b)-reader.Left()]; !bytes.Equal(w.Bytes(), taken) {
			t.Errorf("%x was taken of %x: written as %x", taken, b, w.Bytes())
		}
	}
	if stops < 1000 || stops > 19000 {
		t.Errorf("%d of 20000 readings were stopped: not both often", stops)
	}
}

func TestP3_8Stopped(t *testing.T) {
	b := []byte("\x02ab\x01c\x00\x00\x00")
	stops := map[string]func(r *code.Reader){
		"Fail":             func(r *code.Reader) { r.Fail() },
		"End":              func(r *code.Reader) { r.End() },
		"Text, too small":  func(r *code.Reader) { r.Text(1) },
		"Text, below 0":    func(r *code.Reader) { r.Text(-1) },
		"Raw, too many":    func(r *code.Reader) { r.Raw(9) },
		"Raw, below 0":     func(r *code.Reader) { r.Raw(-1) },
		"Raw, the least":   func(r *code.Reader) { r.Raw(math.MinInt) },
		"Raw, one of many": func(r *code.Reader) { r.Raw(1 << 40) },
	}
	for told, stop := range stops {
		r := code.NewReader(b)
		stop(r)
		checkStopped(t, told, r, len(b))
		checkStopped(t, told+", again", r, len(b))
		if err := r.End(); err != api.ErrForm {
			t.Errorf("%s: End %d", told, err)
		}
	}
	for told, stop := range map[string]func(r *code.Reader){
		"U8":   func(r *code.Reader) { r.U8() },
		"U32":  func(r *code.Reader) { r.U32() },
		"Uint": func(r *code.Reader) { r.Uint() },
		"Text": func(r *code.Reader) { r.Text(9) },
	} {
		r := code.NewReader(b)
		r.Raw(len(b))
		stop(r)
		checkStopped(t, told+", of none", r, 0)
	}
	r := code.NewReader([]byte("\x80\x00\x01a"))
	r.Uint()
	checkStopped(t, "Uint, not the fewest bytes", r, 4)
}

// sizeOf answers how many bytes a number has.
func sizeOf(x uint64) int {
	w := code.NewWriter()
	w.Uint(x)
	return len(w.Bytes())
}

func TestP3_9ShortNumbers(t *testing.T) {
	for x := range uint64(128) {
		if n := sizeOf(x); n != 1 {
			t.Errorf("%d: %d bytes", x, n)
		}
	}
	for n := 1; n < 10; n++ {
		first := uint64(1) << (7 * n)
		if before, at := sizeOf(first-1), sizeOf(first); before != n || at != n+1 {
			t.Errorf("%d: %d bytes, one less: %d", first, at, before)
		}
	}
	if n := sizeOf(math.MaxUint64); n != 10 {
		t.Errorf("the greatest: %d bytes", n)
	}
	l := edges()
	slices.Sort(l)
	for i, x := range l {
		if n := sizeOf(x); n > 10 || i > 0 && n < sizeOf(l[i-1]) {
			t.Errorf("%d: %d bytes", x, n)
		}
	}
}

func TestP3_10Bounds(t *testing.T) {
	for _, n := range sizes {
		b := field{kind: "Text", b: probe.Bytes(5, n)}.written()
		for _, most := range []int{math.MinInt, -1 << 32, -1, 0, n/2 - 1, n - 2, n - 1, n, n + 1, n + 2, 1 << 20, 1 << 32, math.MaxInt - 1, math.MaxInt} {
			r := code.NewReader(append(slices.Clone(b), "behind"...))
			s, told := r.Text(most), fmt.Sprintf("a text of %d bytes, Text(%d)", n, most)
			if most < n {
				if s != "" {
					t.Errorf("%s: %d bytes", told, len(s))
				}
				checkStopped(t, told, r, len(b)+6)
				continue
			}
			if !bytes.Equal([]byte(s), probe.Bytes(5, n)) {
				t.Errorf("%s: %d bytes", told, len(s))
			}
			checkReader(t, told, r, api.OK, 6)
		}
	}
}
