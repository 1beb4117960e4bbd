package answer_test

import (
	"bufio"
	"fmt"
	"io"
	"math/rand"
	"net/http"
	"slices"
	"strings"
	"testing"

	"gatepost/answer"
	"gatepost/api"
	"gatepost/heads"
	"gatepost/probe"
	"gatepost/request"
)

// checkOf tells if the message is another answer than by the words, and answers whether it is one.
func checkOf(t *testing.T, r api.Raw) bool {
	t.Helper()
	want, ok := answerOf(r)
	wantErr := api.ErrForm
	if ok {
		wantErr = api.OK
	}
	if a, err := answer.Of(r); text(a) != text(want) || err != wantErr {
		t.Errorf("Of(%.700q): %.700s, %d; want %.700s, %d", r, text(a), err, text(want), wantErr)
	}
	return ok
}

// checkOne tells if the bytes are another answer than by the words, and answers the error.
func checkOne(t *testing.T, s string) api.Errno {
	t.Helper()
	var want api.Answer
	l, fault := request.Raws([]byte(s))
	if fault == api.OK {
		fault = api.ErrForm
		if len(l) == 1 {
			if a, ok := answerOf(l[0]); ok {
				want, fault = a, api.OK
			}
		}
	}
	if a, err := answer.One([]byte(s)); text(a) != text(want) || err != fault {
		t.Errorf("One(%.700q): %.700s, %d; want %.700s, %d", s, text(a), err, text(want), fault)
	}
	return fault
}

func TestP11_2Examples(t *testing.T) {
	for s, want := range map[string]api.Answer{
		"HTTP/1.1 503 \r\n\r\n":                                 {Code: 503},
		"HTTP/1.1 403 Forbidden\r\ncontent-length: 2\r\n\r\nno": {Code: 403, Heads: row("content-length", "2"), Body: []byte("no")},
		"HTTP/1.1 200 OK\r\nTransfer-Encoding:chunked\r\nX: y\r\n\r\n2\r\nab\r\n1\r\nc\r\n0\r\n\r\n": {Code: 200, Heads: row("transfer-encoding", "chunked", "x", "y"), Body: []byte("abc")},
		"HTTP/1.1 204 what it likes\r\n\r\n": {Code: 204},
	} {
		if a, err := answer.One([]byte(s)); text(a) != text(want) || err != api.OK || !answer.Same(a, want) || checkOne(t, s) != api.OK {
			t.Errorf("%q: %s, %d", s, text(a), err)
		}
	}
	for _, s := range []string{"HTTP/1.1 99 x\r\n\r\n", "HTTP/1.1 200\r\n\r\n"} {
		if a, err := answer.One([]byte(s)); text(a) != text(api.Answer{}) || err != api.ErrForm {
			t.Errorf("%q: %s, %d", s, text(a), err)
		}
	}
}

func TestP11_2One(t *testing.T) {
	const ok = "HTTP/1.1 200 OK\r\n\r\n"
	for s, want := range map[string]api.Errno{
		ok: api.OK, "": api.ErrForm, "\r\n\r\n": api.ErrForm, ok + ok: api.ErrForm, ok + "\r\n": api.ErrForm, "\r\n" + ok: api.ErrForm, ok + "x": api.ErrForm, ok + "a\r\n\r\n": api.ErrForm, ok[1:]: api.ErrForm, ok[:len(ok)-1]: api.ErrForm, ok[:len(ok)-2]: api.ErrForm,
		"HTTP/1.1 200 OK\n\n": api.ErrForm, "HTTP/1.1 200 OK\r\n\n": api.ErrForm, "HTTP/1.1 200 OK\r\r\n\r\n": api.ErrForm, "GET / HTTP/1.1\r\nHost: a\r\n\r\n": api.ErrForm,
		"HTTP/1.1 200 OK\r\nContent-Length: 2\r\n\r\nno": api.OK, "HTTP/1.1 200 OK\r\nContent-Length: 2\r\n\r\nn": api.ErrForm, "HTTP/1.1 200 OK\r\nContent-Length: 2\r\n\r\nnot": api.ErrForm, "HTTP/1.1 200 OK\r\n\r\nno": api.ErrForm, "HTTP/1.1 200 OK\r\nContent-Length: 02\r\n\r\nno": api.ErrForm, "HTTP/1.1 200 OK\r\nContent-Length: 2\r\nTransfer-Encoding: chunked\r\n\r\n0\r\n\r\n": api.ErrForm, "HTTP/1.1 200 OK\r\nTransfer-Encoding: gzip\r\n\r\n": api.ErrForm, "HTTP/1.1 200 OK\r\na : b\r\n\r\n": api.ErrForm,
		"HTTP/1.1 200 " + strings.Repeat("a", 565) + "\r\n\r\n": api.OK, "HTTP/1.1 200 " + strings.Repeat("a", 566) + "\r\n\r\n": api.ErrLong, ok + strings.Repeat("a", 579): api.ErrLong,
		"HTTP/1.1 200 OK\r\nContent-Length: 1025\r\n\r\n": api.ErrLong, "HTTP/1.1 200 OK\r\nTransfer-Encoding: chunked\r\n\r\n401\r\n": api.ErrLong, "HTTP/1.1 200 OK\r\n" + strings.Repeat("a: b\r\n", 24) + "\r\n": api.OK, "HTTP/1.1 200 OK\r\n" + strings.Repeat("a: b\r\n", 25) + "\r\n": api.ErrFull,
		"HTTP/1.1 999 x\r\nContent-Length: 1025\r\n\r\n": api.ErrLong, "HTTP/1.1 999 x\r\n" + strings.Repeat("a: b\r\n", 25): api.ErrFull, "HTTP/1.1 999 x\r\n\r\n": api.ErrForm,
	} {
		if a, err := answer.One([]byte(s)); err != want || (text(a) == text(api.Answer{})) != (want != api.OK) || checkOne(t, s) != want {
			t.Errorf("%.200q: %.200s, %d", s, text(a), err)
		}
	}
}

// Each code, as it is, and told in another way.
func TestP11_2Codes(t *testing.T) {
	for code := range 3000 {
		for _, form := range []string{"HTTP/1.1 %d ", "HTTP/1.1 %d x", "HTTP/1.1 %d 200 OK"} {
			if checkOf(t, api.Raw{Start: fmt.Sprintf(form, code)}) != (code >= 200 && code <= 599) {
				t.Errorf("the code %d", code)
			}
		}
		for _, form := range []string{"HTTP/1.1 0%d ", "HTTP/1.1 00%d OK", "HTTP/1.1 +%d OK", "HTTP/1.1 -%d OK", "HTTP/1.1  %d OK", "HTTP/1.1 %d.0 OK", "HTTP/1.1 %de0 OK", "HTTP/1.1 0x%d OK"} {
			if s := fmt.Sprintf(form, code); checkOf(t, api.Raw{Start: s}) {
				t.Errorf("%q is an answer's", s)
			}
		}
	}
	for _, s := range []string{"", "x", "x200", "200x", "2 00", "20 0", "2_00", "2e2", "2,00", "200,", "\u0662\u0660\u0660", "\uff12\uff10\uff10", "20O", "0310", "0xc8", "0b11001000", "200\t", "\t200", "\x00200", "200\x00", "256200", "65736", "4294967496", "18446744073709551816", strings.Repeat("2", 20), strings.Repeat("2", 1<<16), strings.Repeat("0", 1<<16) + "200"} {
		for _, reason := range []string{"", " ", " OK", " 200 OK"} {
			if checkOf(t, api.Raw{Start: "HTTP/1.1 " + s + reason}) {
				t.Errorf("the code %.200q, and behind it %q: an answer", s, reason)
			}
		}
	}
}

func TestP11_2FirstLines(t *testing.T) {
	for _, s := range []string{"HTTP/1.1 200 OK", "HTTP/1.1 200 ", "HTTP/1.1 200  ", "HTTP/1.1 200 Not Found", "HTTP/1.1 599 a b", "HTTP/1.1 404 200 OK", "HTTP/1.1 200 HTTP/1.1 200 OK", "HTTP/1.1 200 " + strings.Repeat("a", 1<<16)} {
		if !checkOf(t, api.Raw{Start: s}) {
			t.Errorf("%.200q is no answer's", s)
		}
	}
	for _, s := range []string{
		"", " ", "HTTP/1.1", "HTTP/1.1 ", "HTTP/1.1 200", "HTTP/1.1  200 OK", "HTTP/1.1 200OK", "HTTP/1.1200 OK", "HTTP/1.1\t200 OK", "HTTP/1.1 200\tOK", " HTTP/1.1 200 OK", "HTTP/1.1 OK 200", "HTTP/1.1 OK", "200 OK", "OK", "200",
		"HTTP/1.0 200 OK", "HTTP/1.2 200 OK", "HTTP/2 200 OK", "HTTP/2.0 200 OK", "HTTP/0.9 200 OK", "HTTP/11 200 OK", "HTTP/1 200 OK", "HTTP/1.10 200 OK", "HTTP/01.1 200 OK", "http/1.1 200 OK", "Http/1.1 200 OK", "HTTPS/1.1 200 OK", "XHTTP/1.1 200 OK", "HTTP 1.1 200 OK", "HTTP/1,1 200 OK", "\uff28TTP/1.1 200 OK", "HTTP/1.1 HTTP/1.1 200 OK", "ICY 200 OK",
		"HTTP/1.1 200 a\tb", "HTTP/1.1 200 \x00", "HTTP/1.1 200 OK\r", "HTTP/1.1 200 OK\n", "HTTP/1.1 200 OK\r\n", "HTTP/1.1 200 OK\r\na: b", "HTTP/1.1 200 \x7f", "HTTP/1.1 200 \u00e9", "HTTP/1.1 200 \u212a", "HTTP/1.1 200 \xff", "HTTP/1.1 200 \ufffd", "HTTP/1.1 200 \u00a0", "\r\nHTTP/1.1 200 OK",
		"GET / HTTP/1.1", "GET /200 HTTP/1.1", "CONNECT a:200 HTTP/1.1",
	} {
		if checkOf(t, api.Raw{Start: s}) {
			t.Errorf("%.200q is an answer's", s)
		}
	}
	for x := range 256 {
		c := string([]byte{byte(x)})
		for _, s := range []string{c, c + "a", "a" + c, "a" + c + "b"} {
			if checkOf(t, api.Raw{Start: "HTTP/1.1 200 " + s}) != (x >= 32 && x <= 126) {
				t.Errorf("the reason %q", s)
			}
		}
	}
	for _, s := range []string{"HTTP/1.1 200 OK", "HTTP/1.1 599 ", "HTTP/1.1 403 a b"} {
		for near := range probe.Near(s) {
			checkOf(t, api.Raw{Start: near})
		}
	}
}

// A message that was put together by hand may have any headers, and any body; an answer may not.
func TestP11_2AnyFields(t *testing.T) {
	for _, a := range goodAnswers() {
		for _, start := range []string{"HTTP/1.1 200 OK", "HTTP/1.1 503 ", "HTTP/1.1 199 x", "HTTP/1.1 200", ""} {
			checkOf(t, api.Raw{Start: start, Heads: a.Heads, Body: a.Body})
			checkOf(t, api.Raw{Start: start, Heads: a.Heads, Body: append([]byte("x"), a.Body...)})
		}
	}
	for _, l := range badHeads() {
		for _, body := range []string{"", "abc"} {
			r := api.Raw{Start: "HTTP/1.1 200 OK", Heads: l, Body: []byte(body)}
			if a, err := answer.Of(r); checkOf(t, r) != (text(a) != text(api.Answer{})) || body == "" && err != api.ErrForm {
				t.Errorf("%.200q: %.200s, %d", r, text(a), err)
			}
		}
	}
	for _, n := range []int{0, 1, 1023, 1024, 1025, 1 << 20} {
		for _, l := range [][]api.Head{nil, row("content-length", fmt.Sprint(n)), row("content-length", "0"), row("transfer-encoding", "chunked")} {
			r := api.Raw{Start: "HTTP/1.1 200 OK", Heads: l, Body: make([]byte, n)}
			if want := n == 0 || n <= 1024 && len(l) == 1 && l[0].Value != "0"; checkOf(t, r) != want {
				t.Errorf("%d bytes, %q: %v", n, l, !want)
			}
		}
	}
}

func TestP11_2Many(t *testing.T) {
	r := rand.New(rand.NewSource(2))
	fine, bad := 0, 0
	for range 5000 {
		want := someAnswer(r)
		s := someSpelling(r, want)
		if a, err := answer.One([]byte(s)); text(a) != text(want) || err != api.OK {
			t.Fatalf("%.700q: %.700s, %d; want %.700s", s, text(a), err, text(want))
		}
		checkOne(t, edited(r, s))
		m := api.Raw{Start: edited(r, someStart(r, want.Code)), Heads: slices.Clone(want.Heads), Body: want.Body}
		if n := len(m.Heads); n > 0 {
			h := &m.Heads[r.Intn(n)]
			h.Value = edited(r, h.Value)
		}
		if checkOf(t, m) {
			fine++
		} else {
			bad++
		}
	}
	if fine < 1000 || bad < 1000 {
		t.Errorf("%d are fine, %d are not: not both often", fine, bad)
	}
}

// The library reads the same of what is an answer, but for the bodies of 204 and 304, which it takes to have none.
func TestP11_2Library(t *testing.T) {
	r := rand.New(rand.NewSource(3))
	for range 2000 {
		s := someSpelling(r, someAnswer(r))
		want, err := answer.One([]byte(s))
		a, fault := http.ReadResponse(bufio.NewReader(strings.NewReader(s)), nil)
		if err != api.OK || fault != nil {
			t.Fatalf("%.700q: %d, the library %v", s, err, fault)
		}
		body, fault := io.ReadAll(a.Body)
		if want.Code == 204 || want.Code == 304 {
			body = want.Body
		}
		if fault != nil || a.StatusCode != want.Code || string(body) != string(want.Body) || a.Proto != "HTTP/1.1" {
			t.Errorf("%.700q: %.700s; the library has %d, %.200q, %v", s, text(want), a.StatusCode, body, fault)
		}
		for _, h := range want.Heads {
			name := http.CanonicalHeaderKey(h.Name)
			if name != "Transfer-Encoding" && !slices.Equal(a.Header[name], heads.All(h.Name, want.Heads...)) {
				t.Errorf("%.700q: the library has %q: %q", s, name, a.Header[name])
			}
		}
	}
}
