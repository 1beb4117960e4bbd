package request_test

import (
	"fmt"
	"math/rand"
	"slices"
	"strings"
	"testing"

	"gatepost/api"
	"gatepost/probe"
	"gatepost/request"
)

// checkWrite tells if the message is written otherwise than by the words, and answers whether it may be.
func checkWrite(t *testing.T, r api.Raw) bool {
	t.Helper()
	want, wantErr := "", api.ErrArg
	if startForm.MatchString(r.Start) && len(r.Start) <= 578 && fits(r.Heads, r.Body) {
		want, wantErr = bytesOf(r), api.OK
	}
	if b, err := request.Write(r); string(b) != want || err != wantErr {
		t.Errorf("Write(%.700q): %.700q, %d; want %.700q, %d", r, b, err, want, wantErr)
	}
	return wantErr == api.OK
}

func TestP10_4Write(t *testing.T) {
	for _, x := range []struct {
		r    api.Raw
		want string
	}{
		{api.Raw{Start: "a"}, "a\r\n\r\n"},
		{api.Raw{Start: " "}, " \r\n\r\n"},
		{api.Raw{Start: "HTTP/1.1 403 Forbidden", Heads: row("content-length", "2"), Body: []byte("no")}, "HTTP/1.1 403 Forbidden\r\ncontent-length: 2\r\n\r\nno"},
		{api.Raw{Start: "GET / HTTP/1.1", Heads: row("b", "", "a", "b c", "b", "d")}, "GET / HTTP/1.1\r\nb: \r\na: b c\r\nb: d\r\n\r\n"},
		{api.Raw{Start: "x", Heads: row("transfer-encoding", "CHUNKED"), Body: []byte("0\r\n\r\n")}, "x\r\ntransfer-encoding: CHUNKED\r\n\r\n5\r\n0\r\n\r\n\r\n0\r\n\r\n"},
		{api.Raw{Start: "x", Heads: row("transfer-encoding", "chunked")}, "x\r\ntransfer-encoding: chunked\r\n\r\n0\r\n\r\n"},
		{api.Raw{Start: start578, Heads: row(letters64, value512)}, start578 + "\r\n" + letters64 + ": " + value512 + "\r\n\r\n"},
	} {
		if b, err := request.Write(x.r); string(b) != x.want || err != api.OK || !checkWrite(t, x.r) {
			t.Errorf("%q: %q, %d", x.r, b, err)
		}
		if l, err := request.Raws([]byte(x.want)); text(l) != text([]api.Raw{x.r}) || err != api.OK {
			t.Errorf("%q is read as %q, %d", x.want, l, err)
		}
	}
}

func TestP10_4WriteStarts(t *testing.T) {
	for x := range 256 {
		c := string([]byte{byte(x)})
		for _, s := range []string{c, c + "a", "a" + c, "a" + c + "b"} {
			if checkWrite(t, api.Raw{Start: s}) != (x >= 32 && x <= 126) {
				t.Errorf("%q", s)
			}
		}
	}
	for n := range 700 {
		if checkWrite(t, api.Raw{Start: strings.Repeat("a", n)}) != (n >= 1 && n <= 578) {
			t.Errorf("%d bytes", n)
		}
	}
	for _, s := range []string{"", "a\r\n", "a\r\nb: c", "\u00e9", "a\u212a", "\xff", "a\tb", "\x7f", start578 + "a", strings.Repeat("a", 1<<16+1), strings.Repeat("a", 1<<20), strings.Repeat("\xff", 578)} {
		if b, err := request.Write(api.Raw{Start: s}); len(b) != 0 || err != api.ErrArg || checkWrite(t, api.Raw{Start: s}) {
			t.Errorf("%.200q: %.200q, %d", s, b, err)
		}
	}
}

// Headers that may not be, that tell no body's end, or another body's.
func TestP10_4WriteHeads(t *testing.T) {
	for _, l := range [][]api.Head{row("A", "b"), row("", ""), row("a b", ""), row("a", " "), row("a", "b\r\nc: d"), row("a", "\x00"), row("a", value512+"a"), row(letters64+"a", ""), manyHeads(25), manyHeads(1000), row("content-length", "x"), row("content-length", "1025"), row("content-length", "0", "content-length", "0"), row("content-length", "0", "transfer-encoding", "chunked"), row("transfer-encoding", "gzip"), row("transfer-encoding", "chunked", "A", "b"), row("content-length", "1"), row("content-length", "0", "a", "\n")} {
		r := api.Raw{Start: "a", Heads: l}
		if b, err := request.Write(r); len(b) != 0 || err != api.ErrArg || checkWrite(t, r) {
			t.Errorf("%.200q: %.200q, %d", r, b, err)
		}
	}
	for n := range 30 {
		if checkWrite(t, api.Raw{Start: "a", Heads: manyHeads(n)}) != (n <= 24) {
			t.Errorf("%d headers", n)
		}
	}
}

// Each size of a body, by chunks, by its length, by another one, and by nothing.
func TestP10_4WriteBodies(t *testing.T) {
	long := string(probe.Bytes(2, 2000))
	for n := range 1200 {
		body := []byte(long[:n])
		for _, x := range []struct {
			l    []api.Head
			want bool
		}{
			{row("transfer-encoding", "chunked"), n <= 1024},
			{row("content-length", fmt.Sprint(n)), n <= 1024},
			{row("content-length", fmt.Sprint(n+1)), false},
			{row("content-length", fmt.Sprint(n-1)), false},
			{row("content-length", "0"), n == 0},
			{row("x", fmt.Sprint(n)), n == 0},
			{nil, n == 0},
		} {
			r := api.Raw{Start: "a", Heads: x.l, Body: body}
			if checkWrite(t, r) != x.want {
				t.Errorf("%d bytes, %q: %v", n, x.l, !x.want)
			}
			if b, err := request.Write(r); x.want {
				if l, err2 := request.Raws(b); err != api.OK || err2 != api.OK || text(l) != text([]api.Raw{r}) {
					t.Errorf("%d bytes, %q: read as %.200q", n, x.l, l)
				}
			}
		}
	}
}

// Whatever is written is read as it; whatever is read, and has a first line that may be written, is written, and read as it again.
func TestP10_4WriteMany(t *testing.T) {
	r := rand.New(rand.NewSource(6))
	written := 0
	for range 4000 {
		q := someRequest(r)
		m := api.Raw{Start: edited(r, pick(r, "GET / HTTP/1.1", "HTTP/1.1 200 OK", "x")), Heads: slices.Clone(q.Heads), Body: q.Body}
		i := r.Intn(len(m.Heads))
		m.Heads[i].Value = edited(r, m.Heads[i].Value)
		if checkWrite(t, m) {
			written++
			b, _ := request.Write(m)
			if l, err := request.Raws(b); text(l) != text([]api.Raw{m}) || err != api.OK {
				t.Errorf("%.700q is read as %.700q, %d", m, l, err)
			}
		}
		l, _ := request.Raws([]byte(edited(r, someSpelling(r, q))))
		for _, x := range l {
			if checkWrite(t, x) != startForm.MatchString(x.Start) {
				t.Errorf("%.700q was read, and is not written", x)
			}
		}
	}
	if written < 1000 {
		t.Errorf("%d were written: too few", written)
	}
}
