package answer_test

import (
	"math/rand"
	"strings"
	"testing"

	"gatepost/answer"
	"gatepost/api"
	"gatepost/request"
)

// checkBack tells if the answer's bytes are not read as it.
func checkBack(t *testing.T, a api.Answer) {
	t.Helper()
	b, err := answer.Bytes(a)
	if err != api.OK || !answer.May(a) {
		t.Errorf("%.700s has no bytes: %d", text(a), err)
		return
	}
	if back, err := answer.One(b); text(back) != text(a) || err != api.OK || !answer.Same(back, a) {
		t.Errorf("%.700q is read as %.700s, %d; want %.700s", b, text(back), err, text(a))
	}
	if q, err := request.One(b); err == api.OK {
		t.Errorf("%.700q is the request %.700q", b, q)
	}
}

// An answer's bytes are read as it; what is read has bytes that are read as it, too.
func TestP11_6ThereAndBack(t *testing.T) {
	for code := 200; code < 600; code++ {
		checkBack(t, api.Answer{Code: code})
		for _, body := range []string{"", "no", bytes1024} {
			a, _ := answer.Simple(code, body)
			checkBack(t, a)
		}
	}
	for _, a := range goodAnswers() {
		checkBack(t, a)
	}
	r := rand.New(rand.NewSource(4))
	read := 0
	for range 4000 {
		a := someAnswer(r)
		checkBack(t, a)
		for _, s := range []string{someSpelling(r, a), edited(r, bytesOf(a)), edited(r, someSpelling(r, a))} {
			if got, err := answer.One([]byte(s)); err == api.OK {
				read++
				checkBack(t, got)
			}
		}
	}
	if read < 5000 {
		t.Errorf("%d were read: too few", read)
	}
}

// No request's bytes are an answer's, and none that are read as one.
func TestP11_6NoRequests(t *testing.T) {
	starts := []string{"GET / HTTP/1.1", "GET /200 HTTP/1.1", "HTTP /1.1/200/OK HTTP/1.1", "HTTP / HTTP/1.1", "CONNECT http:200 HTTP/1.1", "A /?HTTP/1.1%20200%20OK HTTP/1.1", "OK /HTTP/1.1/200 HTTP/1.1"}
	ends := []string{"\r\n", "content-length: 3\r\n\r\nabc", "transfer-encoding: chunked\r\n\r\n3\r\nabc\r\n0\r\n\r\n", "content-length: 19\r\n\r\nHTTP/1.1 200 OK\r\n\r\n"}
	for _, start := range starts {
		for _, end := range ends {
			s := wire(start, "host: a", end)
			q, err := request.One([]byte(s))
			b, err2 := request.Bytes(q)
			if err != api.OK || err2 != api.OK {
				t.Fatalf("%q is no request: %d, %d", s, err, err2)
			}
			for _, x := range []string{s, string(b)} {
				if a, err := answer.One([]byte(x)); text(a) != text(api.Answer{}) || err != api.ErrForm {
					t.Errorf("%q: %s, %d", x, text(a), err)
				}
			}
			// Of its bytes with another first line there is an answer: it is the line alone that they have not.
			x := strings.Replace(s, start, "HTTP/1.1 200 OK", 1)
			if _, err := answer.One([]byte(x)); err != api.OK {
				t.Errorf("%q is no answer: %d", x, err)
			}
		}
	}
}

// Answers one behind the other are read as these, in their order.
func TestP11_7Rows(t *testing.T) {
	r := rand.New(rand.NewSource(5))
	for range 1000 {
		var want []api.Answer
		s := ""
		for range r.Intn(6) {
			a := someAnswer(r)
			b, _ := answer.Bytes(a)
			want = append(want, a)
			s += pick(r, string(b), someSpelling(r, a))
		}
		checkRow(t, s, want...)
		if a, err := answer.One([]byte(s)); len(want) != 1 && (err != api.ErrForm || text(a) != text(api.Answer{})) {
			t.Errorf("%d answers: read as one, %.700s, %d", len(want), text(a), err)
		}
	}
	good := goodAnswers()
	for _, a := range good {
		for _, b := range good {
			checkRow(t, bytesOf(a)+bytesOf(b), a, b)
		}
	}
}

// checkRow tells if the bytes are read as other answers than these.
func checkRow(t *testing.T, s string, want ...api.Answer) {
	t.Helper()
	l, err := request.Raws([]byte(s))
	if err != api.OK || len(l) != len(want) {
		t.Fatalf("%.700q: %d messages of %d answers, %d", s, len(l), len(want), err)
	}
	for i, m := range l {
		if a, err := answer.Of(m); text(a) != text(want[i]) || err != api.OK {
			t.Errorf("the answer %d: %.700s, %d; want %.700s", i, text(a), err, text(want[i]))
		}
	}
}
