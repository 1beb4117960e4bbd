package request_test

import (
	"math/rand"
	"slices"
	"strings"
	"testing"

	"gatepost/api"
	"gatepost/request"
)

// goodMessages are bytes that are just one message each.
func goodMessages() []string {
	return append(goodRequests(), "\r\n\r\n", "a\r\n\r\n", "HTTP/1.1 200 OK\r\nContent-Length: 2\r\n\r\nok", "\x00\xff\r\na:\r\nTRANSFER-ENCODING: CHUNKED\r\n\r\n0\r\n\r\n")
}

// goodRequests are bytes that are just one request each.
func goodRequests() []string {
	return append(bare(), chunkedTop+"3\r\nabc\r\n2\r\nde\r\n0\r\n\r\n",
		chunkedTop+"a\r\n\r\n0\r\n\r\n\r\nx\r\n0\r\n\r\n",
		"POST / HTTP/1.1\r\nHost: a\r\nContent-Length: 4\r\n\r\n\r\n\r\n",
		"POST /x HTTP/1.1\r\ncontent-length:30\r\nHost: a\r\n\r\nGET / HTTP/1.1\r\nHost: abcd\r\n\r\n",
		"CONNECT A:1 HTTP/1.1\r\nHost: a\r\ncontent-length: 1\r\n\r\n\n",
	)
}

// bare are bytes that are just one request each, without a body.
func bare() []string {
	return []string{
		plainGet, "GET /a//b?x HTTP/1.1\r\nHost: A.b\r\n\r\n", "CONNECT a.b:80 HTTP/1.1\r\nx:y\r\nHost:\t a.b:80\t\r\n\r\n", "A / HTTP/1.1\r\nx:\r\nhost:a\r\nx: y z\r\n\r\n",
		"POST / HTTP/1.1\r\nHost: a\r\nContent-Length: 0\r\n\r\n", chunkedTop + "0\r\n\r\n",
	}
}

// However the bytes are cut in two, or in three, or are fed byte by byte: the same messages, the same reading.
func TestP10_6Cuts(t *testing.T) {
	texts := slices.Concat(goodMessages(), []string{plainGet + plainGet + "x\r\n\r\n", plainGet + "\n" + plainGet, plainGet + "a\r\nb\r\n", chunkedTop + "3\r\nabcd\r\n", chunkedTop + "01\r\n", chunkedTop + "0\r\nx: y\r\n\r\n", "a\r\nContent-Length: 1025\r\n\r\n", plainGet + strings.Repeat("a", 590), "\r", "a\r\nb:c\r\n\r"})
	for _, s := range texts {
		want, wantL := fed(request.New(), s)
		if p, l := fed(request.New(), strings.Split(s, "")...); text(p) != text(want) || text(l) != text(wantL) {
			t.Errorf("%.200q byte by byte: %s, %q", s, text(p), l)
		}
		for i := range len(s) + 1 {
			if p, l := fed(request.New(), pieces(s, i)...); text(p) != text(want) || text(l) != text(wantL) {
				t.Errorf("%.200q cut at %d: %s, %q", s, i, text(p), l)
			}
			for _, j := range []int{i + 1, i + 2, i + 5} {
				if j <= len(s) {
					if p, l := fed(request.New(), pieces(s, i, i, j)...); text(p) != text(want) || text(l) != text(wantL) {
						t.Errorf("%.200q cut at %d and %d: %s, %q", s, i, j, text(p), l)
					}
				}
			}
		}
	}
}

func TestP10_6CutsMany(t *testing.T) {
	r := rand.New(rand.NewSource(7))
	faults := 0
	for range 3000 {
		s := someSpelling(r, someRequest(r))
		for range r.Intn(3) {
			s += edited(r, someSpelling(r, someRequest(r)))
		}
		want, wantL := fed(request.New(), s)
		if want.Err != api.OK {
			faults++
		}
		places := make([]int, r.Intn(12))
		for i := range places {
			places[i] = r.Intn(len(s) + 1)
		}
		slices.Sort(places)
		if p, l := fed(request.New(), pieces(s, places...)...); text(p) != text(want) || text(l) != text(wantL) {
			t.Fatalf("%.700q cut at %v: %.700s, %.700q", s, places, text(p), l)
		}
		checkRead(t, s)
	}
	if faults < 300 {
		t.Errorf("%d had a fault: too few", faults)
	}
}

// checkAlone tells if a beginning of the request's bytes is one, or if it is not the first one of what stands ahead of something.
func checkAlone(t *testing.T, s string) {
	t.Helper()
	want, err := request.One([]byte(s))
	if err != api.OK {
		t.Fatalf("%.200q is no request: %d", s, err)
	}
	for i := range len(s) {
		if q, err := request.One([]byte(s[:i])); err == api.OK || text(q) != text(api.Request{}) {
			t.Errorf("%d bytes of %.200q: %.200q", i, s, q)
		}
		if _, l := fed(request.New(), s[:i]); len(l) != 0 {
			t.Errorf("%d bytes of %.200q: %.200q", i, s, l)
		}
	}
	for _, more := range []string{"", "x", "\r", "\n", "\r\n", "\r\n\r\n", "0\r\n\r\n", plainGet, s, "\x00", "abc", strings.Repeat("a", 600), chunkedTop} {
		_, l := fed(request.New(), s+more)
		if len(l) == 0 {
			t.Fatalf("%.200q, and behind it %.200q: no message", s, more)
		}
		if q, err := request.Of(l[0]); text(q) != text(want) || err != api.OK {
			t.Errorf("%.200q, and behind it %.200q: %.200q, %d", s, more, q, err)
		}
		if q, err := request.One([]byte(s + more)); more != "" && (err == api.OK || text(q) != text(api.Request{})) {
			t.Errorf("%.200q, and behind it %.200q: one request", s, more)
		}
	}
}

func TestP10_6Alone(t *testing.T) {
	for _, s := range goodRequests() {
		checkAlone(t, s)
	}
	r := rand.New(rand.NewSource(8))
	for range 30 {
		checkAlone(t, someSpelling(r, someRequest(r)))
	}
}

// A request's bytes are read as it; what is read has bytes that are read as it, too.
func TestP10_7ThereAndBack(t *testing.T) {
	r := rand.New(rand.NewSource(9))
	texts := goodRequests()
	for range 4000 {
		q := someRequest(r)
		b, err := request.Bytes(q)
		if err != api.OK {
			t.Fatalf("%.700q has no bytes: %d", q, err)
		}
		if back, err := request.One(b); text(back) != text(q) || err != api.OK || !request.Same(back, q) {
			t.Errorf("%.700q is read as %.700q, %d", b, back, err)
		}
		texts = append(texts, someSpelling(r, q), edited(r, string(b)))
	}
	read := 0
	for _, s := range texts {
		q, err := request.One([]byte(s))
		if err != api.OK {
			continue
		}
		read++
		b, err := request.Bytes(q)
		if back, err2 := request.One(b); text(back) != text(q) || err != api.OK || err2 != api.OK || !request.May(q) {
			t.Errorf("%.700q is read as %.700q, and its bytes as %.700q, %d", s, q, back, err2)
		}
	}
	if read < 4000 {
		t.Errorf("%d were read: too few", read)
	}
}

// Without one of its carriage returns or line feeds, or with one more anywhere, a request without a body is none.
func TestP10_8LineEnds(t *testing.T) {
	texts := bare()
	r := rand.New(rand.NewSource(10))
	for len(texts) < 40 {
		if q := someRequest(r); len(q.Body) == 0 {
			texts = append(texts, someSpelling(r, q))
		}
	}
	for _, s := range texts {
		if q, err := request.One([]byte(s)); err != api.OK || len(q.Body) != 0 {
			t.Fatalf("%.200q: %.200q, %d", s, q, err)
		}
		for i := range len(s) + 1 {
			others := []string{s[:i] + "\r" + s[i:], s[:i] + "\n" + s[i:]}
			if i < len(s) && (s[i] == '\r' || s[i] == '\n') {
				others = append(others, s[:i]+s[i+1:])
			}
			for _, other := range others {
				if q, err := request.One([]byte(other)); err != api.ErrForm || text(q) != text(api.Request{}) {
					t.Errorf("%.200q, changed at %d: %.200q, %d", s, i, q, err)
				}
			}
		}
	}
}

// Requests one behind the other are read as these, in their order.
func TestP10_9Rows(t *testing.T) {
	r := rand.New(rand.NewSource(11))
	for range 1000 {
		var want []api.Request
		s := ""
		for range r.Intn(6) {
			q := someRequest(r)
			b, _ := request.Bytes(q)
			want = append(want, q)
			s += pick(r, string(b), someSpelling(r, q))
		}
		l, err := request.Raws([]byte(s))
		if err != api.OK || len(l) != len(want) {
			t.Fatalf("%d requests: %d messages, %d", len(want), len(l), err)
		}
		for i, m := range l {
			if q, err := request.Of(m); text(q) != text(want[i]) || err != api.OK {
				t.Errorf("the request %d: %.700q, %d; want %.700q", i, q, err, want[i])
			}
		}
	}
	good := goodRequests()
	for _, a := range good {
		for _, b := range good {
			l, err := request.Raws([]byte(a + b))
			first, _ := request.One([]byte(a))
			second, _ := request.One([]byte(b))
			if err != api.OK || len(l) != 2 {
				t.Fatalf("%q: %d messages, %d", a+b, len(l), err)
			}
			x, _ := request.Of(l[0])
			y, _ := request.Of(l[1])
			if text(x) != text(first) || text(y) != text(second) {
				t.Errorf("%q: %q, %q", a+b, x, y)
			}
		}
	}
}
