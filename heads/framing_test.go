package heads_test

import (
	"bufio"
	"fmt"
	"math/big"
	"math/rand"
	"net/http"
	"regexp"
	"slices"
	"strconv"
	"strings"
	"testing"

	"gatepost/api"
	"gatepost/heads"
	"gatepost/probe"
)

// The words of what a length and a coding may be; no (?i), as that would take letters of more than a byte.
var (
	numberForm = regexp.MustCompile(`\A(?:0|[1-9][0-9]*)\z`)
	codingForm = regexp.MustCompile(`\A[Cc][Hh][Uu][Nn][Kk][Ee][Dd]\z`)
)

// framing answers by the words how the headers' body's end is told.
func framing(l []api.Head) (api.BodyEnd, api.Errno) {
	lengths, rest := split("content-length", l)
	codings, _ := split("transfer-encoding", rest)
	switch [2]int{min(len(lengths), 2), min(len(codings), 2)} {
	case [2]int{0, 0}:
		return api.BodyEnd{}, api.OK
	case [2]int{0, 1}:
		if codingForm.MatchString(codings[0]) {
			return api.BodyEnd{Chunked: 1}, api.OK
		}
	case [2]int{1, 0}:
		n, ok := new(big.Int).SetString(lengths[0], 10)
		switch {
		case !ok || !numberForm.MatchString(lengths[0]):
			return api.BodyEnd{}, api.ErrForm
		case n.Cmp(big.NewInt(1024)) > 0:
			return api.BodyEnd{}, api.ErrLong
		}
		return api.BodyEnd{Has: 1, Length: int(n.Int64())}, api.OK
	}
	return api.BodyEnd{}, api.ErrForm
}

// checkFraming tells if the headers have a frame otherwise than by the words, and answers whether they have one.
func checkFraming(t *testing.T, l ...api.Head) bool {
	t.Helper()
	want, wantErr := framing(l)
	if got, err := heads.Framing(l...); got != want || err != wantErr {
		t.Errorf("Framing(%.500q): %v, %d; want %v, %d", l, got, err, want, wantErr)
	}
	return wantErr == api.OK
}

// checkFrame tells if the headers have another frame, or error, than that.
func checkFrame(t *testing.T, want api.BodyEnd, wantErr api.Errno, l ...string) {
	t.Helper()
	if got, err := heads.Framing(row(l...)...); got != want || err != wantErr {
		t.Errorf("Framing(%.500q): %v, %d; want %v, %d", l, got, err, want, wantErr)
	}
	checkFraming(t, row(l...)...)
}

func TestP9_4Examples(t *testing.T) {
	checkFrame(t, api.BodyEnd{Has: 1, Length: 5}, api.OK, "content-length", "5")
	checkFrame(t, api.BodyEnd{}, api.ErrForm, "content-length", "05")
	checkFrame(t, api.BodyEnd{}, api.ErrForm, "content-length", "+5")
	checkFrame(t, api.BodyEnd{}, api.ErrForm, "content-length", "5", "transfer-encoding", "chunked")
	checkFrame(t, api.BodyEnd{}, api.ErrForm, "content-length", "5", "content-length", "5")
	checkFrame(t, api.BodyEnd{Chunked: 1}, api.OK, "transfer-encoding", "Chunked")
	checkFrame(t, api.BodyEnd{}, api.ErrForm, "transfer-encoding", "gzip, chunked")
	checkFrame(t, api.BodyEnd{}, api.ErrLong, "content-length", "1025")
}

func TestP9_4None(t *testing.T) {
	checkFrame(t, api.BodyEnd{}, api.OK)
	checkFrame(t, api.BodyEnd{}, api.OK, "host", "a.b")
	for _, h := range append(goodHeads(), badHeads()...) {
		if h.Name != "content-length" && h.Name != "transfer-encoding" && !checkFraming(t, h, h) {
			t.Errorf("%.200q tells of a body", h)
		}
	}
	// Other names, and names that may not be: none of them is it.
	for _, name := range []string{"Content-Length", "CONTENT-LENGTH", "content-lengt", "content-lengths", "content_length", "content-length ", " content-length", "contentlength", "x-content-length", "content-length:", "\u212aontent-length", "Transfer-Encoding", "transfer-encoding ", "transfer_encoding", "transfer-encodin", "te", "trailer", ""} {
		for _, value := range []string{"5", "05", "1025", "chunked", "gzip", ""} {
			checkFrame(t, api.BodyEnd{}, api.OK, name, value, name, value)
			checkFrame(t, api.BodyEnd{Has: 1, Length: 7}, api.OK, name, value, "content-length", "7", name, value)
			checkFrame(t, api.BodyEnd{Chunked: 1}, api.OK, name, value, "transfer-encoding", "chunked", name, value)
		}
	}
}

// Each number up to far beyond the limit, as it is, and with a nought ahead.
func TestP9_4EachLength(t *testing.T) {
	for n := range 1 << 17 {
		want, wantErr := api.BodyEnd{Has: 1, Length: n}, api.OK
		if n > 1024 {
			want, wantErr = api.BodyEnd{}, api.ErrLong
		}
		s := strconv.Itoa(n)
		if got, err := heads.Framing(row("content-length", s)...); got != want || err != wantErr {
			t.Errorf("%d: %v, %d", n, got, err)
		}
		if got, err := heads.Framing(row("content-length", "0"+s)...); got != (api.BodyEnd{}) || err != api.ErrForm {
			t.Errorf("0%d: %v, %d", n, got, err)
		}
	}
}

// Lengths of ever more digits: those that no number of the machine has, and those that would be small ones in it, are too long.
func TestP9_4LongLengths(t *testing.T) {
	for n := range 100 {
		for d := range 10 {
			for _, s := range []string{"1" + strings.Repeat(strconv.Itoa(d), n), strings.Repeat(strconv.Itoa(d), n), "9" + strings.Repeat("0", n) + strconv.Itoa(d), "102" + strings.Repeat(strconv.Itoa(d), n)} {
				checkFraming(t, row("content-length", s)...)
				checkFraming(t, row("content-length", s+"x")...)
			}
		}
	}
	for _, bits := range []uint{8, 16, 31, 32, 33, 53, 63, 64, 65, 127, 128, 256} {
		for _, d := range []int64{-1, 0, 1, 5, 1024} {
			n := new(big.Int).Lsh(big.NewInt(1), bits)
			s := n.Add(n, big.NewInt(d)).String()
			if got, err := heads.Framing(row("content-length", s)...); (got != api.BodyEnd{} || err != api.ErrLong) && len(s) > 3 {
				t.Errorf("%s: %v, %d", s, got, err)
			}
			checkFraming(t, row("content-length", s)...)
		}
	}
	checkFrame(t, api.BodyEnd{}, api.ErrLong, "content-length", "999999999999999999")
	checkFrame(t, api.BodyEnd{}, api.ErrLong, "content-length", "1000000000000000000")
	checkFrame(t, api.BodyEnd{}, api.ErrLong, "content-length", "1"+strings.Repeat("0", 100000))
	checkFrame(t, api.BodyEnd{}, api.ErrForm, "content-length", strings.Repeat("0", 100000))
	checkFrame(t, api.BodyEnd{}, api.ErrForm, "content-length", "0"+strings.Repeat("9", 30))
}

func TestP9_4Lengths(t *testing.T) {
	for _, s := range []string{"0", "1", "9", "10", "100", "999", "1000", "1023", "1024"} {
		n, _ := strconv.Atoi(s)
		checkFrame(t, api.BodyEnd{Has: 1, Length: n}, api.OK, "content-length", s)
		checkFrame(t, api.BodyEnd{Has: 1, Length: n}, api.OK, "host", "a", "content-length", s, "x", "1025")
	}
	for _, s := range []string{
		"", "00", "01", "000", "0000000000000000000000", "01024", "01025", "+0", "-0", "-1", "+1024", " 5", "5 ", " ", "\t5", "5\t", "5\n", "5\r\n", "5 5", "5,5", "5, 5", "5;", "5.", "5.0", ".5", "5e0", "1e3", "0x5", "0X5", "0b1", "0o5", "5h", "a", "x", "five", "chunked", "1_0", "1,000", "1'000", "'5'", "\"5\"", "(5)", "5\x00", "\x005", "\x00", "5:", "*", "infinity", "NaN", "nil",
		"\u0665", "\uff15", "5\u0665", "\u00b2", "5\u00b2", "\u2075", "\u0967", "\U0001d7d3", "\xb2", "5\xff", "\xff", "5\u00a0", "5\u200b", "\ufeff5", "1025 ", "+1025", "-1025", "1025,5", "1025x", "99999999999999999999x", "-99999999999999999999", "9999999999 9999999999", "1e30", "0x7fffffffffffffff", "18446744073709551621 ",
	} {
		checkFrame(t, api.BodyEnd{}, api.ErrForm, "content-length", s)
		checkFrame(t, api.BodyEnd{}, api.ErrForm, "host", "a", "content-length", s, "x", "5")
	}
	for _, s := range probe.Texts(4, "0", "1", "2", "9", "+", "-", " ", "x", ",", ".", "_") {
		checkFraming(t, row("content-length", s)...)
	}
	for _, s := range []string{"0", "5", "1024", "1025", "99999999999999999999"} {
		for near := range probe.Near(s) {
			checkFraming(t, row("content-length", near)...)
		}
	}
}

func TestP9_4Codings(t *testing.T) {
	sizes := 0
	for _, l := range probe.Rows(7, 0, 1) {
		if len(l) < 7 {
			continue
		}
		b := []byte("chunked")
		for i, large := range l {
			b[i] -= byte(large * 32)
		}
		sizes++
		checkFrame(t, api.BodyEnd{Chunked: 1}, api.OK, "transfer-encoding", string(b))
		checkFrame(t, api.BodyEnd{Chunked: 1}, api.OK, "host", "a", "transfer-encoding", string(b), "x", "chunked")
	}
	if sizes != 128 {
		t.Errorf("%d", sizes)
	}
	for _, s := range []string{
		"", "gzip", "identity", "deflate", "compress", "5", "0", "chunked ", " chunked", "\tchunked", "chunked\t", "chunked\n", "chunked\r\n", "\vchunked", "chunked\x00", "\x00chunked", "chunke", "hunked", "chunkedd", "chunked,", ",chunked", "chunked, chunked", "chunked,chunked", "chunked, gzip", "gzip,chunked", "chunked;q=1", "chunked; a", "\"chunked\"", "x-chunked", "chunked-x", "chunkedchunked", "chun ked", "c", "chun\u212aed", "CHUN\u212aED", "\uff43hunked", "chunked\u00a0", "chunked\ufeff", "\xffchunked", "\u0441hunked", "chunke\u0501", "bhunked", "chunkeD ", "CHUNKED,", "c\x08unked", "\x03\x08\x15\x0e\x0b\x05\x04",
	} {
		checkFrame(t, api.BodyEnd{}, api.ErrForm, "transfer-encoding", s)
		checkFrame(t, api.BodyEnd{}, api.ErrForm, "host", "a", "transfer-encoding", s, "x", "chunked")
	}
	for _, s := range []string{"chunked", "CHUNKED", "Chunked"} {
		for near := range probe.Near(s) {
			checkFraming(t, row("transfer-encoding", near)...)
		}
	}
	checkFrame(t, api.BodyEnd{}, api.ErrForm, "transfer-encoding", strings.Repeat("chunked", 100000))
}

// frameHeads are headers that tell a body's end, well and badly, and others.
func frameHeads() []api.Head {
	return row("content-length", "5", "content-length", "0", "content-length", "1025", "content-length", "99999999999999999999", "content-length", "05", "content-length", "", "transfer-encoding", "chunked", "transfer-encoding", "CHUNKED", "transfer-encoding", "gzip", "transfer-encoding", "", "host", "a", "Content-Length", "6", "x", "chunked")
}

// Each row of a few of them: two of one name, both names, and lengths that are too long beside others are not clear.
func TestP9_4Rows(t *testing.T) {
	fine, long, unclear := 0, 0, 0
	for _, l := range probe.Rows(4, frameHeads()...) {
		checkFraming(t, l...)
		switch _, err := heads.Framing(l...); err {
		case api.OK:
			fine++
		case api.ErrLong:
			long++
		case api.ErrForm:
			unclear++
		}
	}
	if fine < 500 || long < 200 || unclear < 10000 {
		t.Errorf("%d have a frame, %d are too long, %d not clear", fine, long, unclear)
	}
	for _, s := range []string{"5", "0", "1025", "99999999999999999999"} {
		for _, two := range [][]string{{"content-length", s}, {"content-length", "5"}, {"content-length", "x"}, {"transfer-encoding", "chunked"}, {"transfer-encoding", "gzip"}, {"transfer-encoding", ""}} {
			checkFrame(t, api.BodyEnd{}, api.ErrForm, append([]string{"content-length", s}, two...)...)
			checkFrame(t, api.BodyEnd{}, api.ErrForm, append(two, "content-length", s)...)
			checkFrame(t, api.BodyEnd{}, api.ErrForm, append(two, "host", "a", "content-length", s, "x", "y")...)
		}
	}
	checkFrame(t, api.BodyEnd{}, api.ErrForm, "transfer-encoding", "chunked", "transfer-encoding", "chunked")
	checkFrame(t, api.BodyEnd{}, api.ErrForm, "transfer-encoding", "gzip", "transfer-encoding", "chunked")
	if checkFraming(t, slices.Repeat(row("content-length", "5"), 100000)...) || !checkFraming(t, append(slices.Repeat(row("x", "5"), 100000), api.Head{Name: "content-length", Value: "5"})...) {
		t.Error("of very many headers otherwise than of few")
	}
}

// The library's own reading of a request with these headers takes its body for just as long.
func TestP9_4Library(t *testing.T) {
	asked := 0
	for _, l := range probe.Rows(3, row("content-length", "5", "content-length", "0", "content-length", "1024", "transfer-encoding", "chunked", "transfer-encoding", "CHUNKED", "x", "1")...) {
		want, err := heads.Framing(l...)
		if err != api.OK {
			continue
		}
		text := "POST / HTTP/1.1\r\nhost: a\r\n"
		for _, h := range l {
			line, _ := heads.Line(h)
			text += line + "\r\n"
		}
		q, fault := http.ReadRequest(bufio.NewReader(strings.NewReader(text + "\r\n")))
		if fault != nil {
			t.Errorf("%q: %v", l, fault)
			continue
		}
		asked++
		chunked := slices.Equal(q.TransferEncoding, []string{"chunked"})
		if chunked != (want.Chunked == 1) || !chunked && q.ContentLength != int64(want.Length) {
			t.Errorf("%q: %v; the library has %d bytes, %q", l, want, q.ContentLength, q.TransferEncoding)
		}
	}
	if asked < 10 {
		t.Errorf("%d requests: too few", asked)
	}
}

// orders answers the row in each order.
func orders(l []api.Head) [][]api.Head {
	if len(l) == 0 {
		return [][]api.Head{nil}
	}
	var all [][]api.Head
	for i := range l {
		rest := slices.Delete(slices.Clone(l), i, i+1)
		for _, o := range orders(rest) {
			all = append(all, append([]api.Head{l[i]}, o...))
		}
	}
	return all
}

func TestP9_7Orders(t *testing.T) {
	fine := 0
	for _, l := range probe.Rows(4, frameHeads()...) {
		want, wantErr := heads.Framing(l...)
		if wantErr == api.OK {
			fine++
		}
		for _, o := range orders(l) {
			if got, err := heads.Framing(o...); got != want || err != wantErr {
				t.Fatalf("%q: %v, %d; in the order %q %v, %d", l, want, wantErr, o, got, err)
			}
		}
	}
	if fine < 500 {
		t.Errorf("%d rows have a frame: too few", fine)
	}
}

func TestP9_7OrdersMany(t *testing.T) {
	r := rand.New(rand.NewSource(9))
	for range 5000 {
		l := append(someRow(r), someRow(r)...)
		want, wantErr := heads.Framing(l...)
		for range 5 {
			r.Shuffle(len(l), func(i, j int) { l[i], l[j] = l[j], l[i] })
			if got, err := heads.Framing(l...); got != want || err != wantErr {
				t.Fatalf("%q: %v, %d, in another order %v, %d", l, got, err, want, wantErr)
			}
		}
	}
}

// Whatever tells a body's end a second time takes the frame away, wherever it stands.
func TestP9_7Another(t *testing.T) {
	told := 0
	for _, l := range probe.Rows(3, frameHeads()...) {
		frame, err := heads.Framing(l...)
		if err != api.OK || frame == (api.BodyEnd{}) {
			continue
		}
		told++
		for _, name := range []string{"content-length", "transfer-encoding"} {
			for _, value := range []string{"", "0", "5", "6", "1025", "05", "chunked", "Chunked", "gzip", fmt.Sprint(frame.Length)} {
				h := api.Head{Name: name, Value: value}
				for i := range len(l) + 1 {
					more := slices.Insert(slices.Clone(l), i, h)
					if got, err := heads.Framing(more...); got != (api.BodyEnd{}) || err != api.ErrForm {
						t.Errorf("%q has %v, %d", more, got, err)
					}
				}
			}
		}
	}
	if told < 100 {
		t.Errorf("%d rows tell a body's end: too few", told)
	}
}

// Of headers that tell nothing one more tells it, as it would alone.
func TestP9_7First(t *testing.T) {
	for _, l := range probe.Rows(3, row("host", "a", "x", "chunked", "Content-Length", "5")...) {
		for _, h := range frameHeads() {
			want, wantErr := heads.Framing(h)
			if got, err := heads.Framing(append(slices.Clone(l), h)...); got != want || err != wantErr {
				t.Errorf("%q behind %q: %v, %d", h, l, got, err)
			}
		}
	}
}
