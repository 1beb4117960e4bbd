package request_test

import (
	"fmt"
	"slices"
	"strings"
	"testing"

	"gatepost/api"
	"gatepost/probe"
	"gatepost/request"
)

// toldOf answers in new memory whatever the calls tell of the bytes.
func toldOf(b []byte) string {
	p, l := request.Feed(request.New(), b)
	m, err := request.Raws(b)
	q, err2 := request.One(b)
	return fmt.Sprint(text(p), text(l), text(m), err, text(q), err2)
}

// begun are bytes of messages that are whole, that have begun, and that have a fault.
func begun() []string {
	l := slices.Concat(goodMessages(), tops(), []string{plainGet + "a\r", chunkedTop + "3\r\na", plainGet + "\n"})
	return append(l, "POST / HTTP/1.1\r\nHost: a\r\nX: Y\r\nContent-Length: 5\r\n\r\nabc")
}

func TestP10_5BytesStay(t *testing.T) {
	for _, s := range begun() {
		given, stays := probe.Guarded([]byte(s))
		if first := toldOf(given); toldOf(given) != first || toldOf([]byte(s)) != first || !stays() {
			t.Errorf("%.200q: it is changed, or told of otherwise", s)
		}
	}
}

// What is answered stays as it is, whatever becomes of the bytes.
func TestP10_5BytesAreNotKept(t *testing.T) {
	for _, s := range begun() {
		given := []byte(s)
		p, l := request.Feed(request.New(), given)
		m, _ := request.Raws(given)
		q, _ := request.One(given)
		before := text(p) + text(l) + text(m) + text(q)
		probe.Scrub(given)
		if now := text(p) + text(l) + text(m) + text(q); now != before {
			t.Errorf("%.700s is %.700s behind a change of what was given", before, now)
		}
	}
}

// lentParsing answers the parsing with room behind its lists, in memory that scrub makes another one; stays tells whether the lists and the room are as they were.
func lentParsing(p api.Parsing) (given api.Parsing, stays func() bool, scrub func()) {
	line, lineStays := probe.Guarded(p.Line)
	raw, scrubRaw := lentRaw(p.Raw)
	list, headsStay := probe.GuardedRow(raw.Heads, api.Head{Name: "behind", Value: "it"})
	body, bodyStays := probe.Guarded(raw.Body)
	given = api.Parsing{Phase: p.Phase, Line: line, Raw: api.Raw{Start: raw.Start, Heads: list, Body: body}, Left: p.Left, Err: p.Err}
	return given, func() bool { return lineStays() && headsStay() && bodyStays() }, func() {
		scrubRaw()
		probe.Scrub(line)
		probe.Scrub(body)
	}
}

// A reading that is gone on with stays, and can be gone on with again; what comes of it is in no memory of it.
func TestP10_5ReadingsStay(t *testing.T) {
	for _, s := range append(begun(), "GET / HTTP/1.1\r\nHost: a\r\nX: Y\r\nZ", chunkedTop+"5\r\nabcde\r\n4\r\nabc") {
		first, _ := fed(request.New(), s)
		want := text(first)
		for _, more := range []string{"", "a", "\r\n", "\n", "b: c\r\n\r\n", "d\r\n0\r\n\r\n" + plainGet, "de" + plainGet + "G", strings.Repeat("x", 700)} {
			wantP, wantL := fed(first, more)
			given, stays, scrub := lentParsing(first)
			p, l := fed(given, more)
			idle := request.Idle(given)
			if text(given) != want || text(first) != want || !stays() || idle != request.Idle(first) {
				t.Errorf("%.200q: %.200s is changed by %.200q", s, text(first), more)
			}
			scrub()
			if text(p) != text(wantP) || text(l) != text(wantL) {
				t.Errorf("%.200q, then %.200q: %.200s, %.200q behind a change of what was given", s, more, text(p), l)
			}
		}
	}
}

// No two answers are in one memory: what becomes of one, or is put behind its lists, is seen in no other one.
func TestP10_5AnswersAreApart(t *testing.T) {
	for _, s := range begun() {
		p, l := request.Feed(request.New(), []byte(s+s))
		wantP, wantL := text(p), text(l)
		q, m := request.Feed(p, []byte("a"))
		wantQ, wantM := text(q), text(m)
		for i := range l {
			spoil(l[i])
		}
		if text(p) != wantP || text(q) != wantQ || text(m) != wantM {
			t.Errorf("%.200q: the reading is another one behind a change of its messages", s)
		}
		_ = append(p.Line, "xyz"...)
		probe.Scrub(p.Line)
		spoil(p.Raw)
		if text(q) != wantQ || text(m) != wantM {
			t.Errorf("%.200q: what was read further is another one behind a change of the reading", s)
		}
		if p, l := request.Feed(request.New(), []byte(s+s)); text(p) != wantP || text(l) != wantL {
			t.Errorf("%.200q: told of otherwise behind a change of what was answered", s)
		}
	}
}

// spoil makes the message's lists, and the room behind them, others.
func spoil(r api.Raw) {
	probe.Scrub(r.Body)
	l := r.Heads[:cap(r.Heads)]
	for i := range l {
		l[i] = api.Head{Name: "other", Value: "one"}
	}
}

// Messages that are read in one go are apart from one another.
func TestP10_5MessagesAreApart(t *testing.T) {
	s := strings.Repeat("POST / HTTP/1.1\r\nHost: a\r\nContent-Length: 3\r\n\r\nabc", 4) + strings.Repeat(chunkedTop+"3\r\nabc\r\n0\r\n\r\n", 4)
	want, _ := request.Raws([]byte(s))
	for i := range want {
		l, _ := request.Raws([]byte(s))
		spoil(l[i])
		for j := range l {
			if i != j && text(l[j]) != text(want[j]) {
				t.Errorf("message %d is another one behind a change of message %d", j, i)
			}
		}
	}
}

// requests are some that may be, and some that may not.
func requests() []api.Request {
	var l []api.Request
	for _, s := range goodRequests() {
		q, _ := request.One([]byte(s))
		l = append(l, q)
		q.Host += "."
		l = append(l, q)
	}
	return append(l, api.Request{}, api.Request{Method: "GET", Target: "/", Path: "/", Host: "a", Heads: row("host", "a", "X", " "), Body: []byte("abc")})
}

// lentRequest answers the request with room behind its lists, in memory that scrub makes another one.
func lentRequest(q api.Request) (given api.Request, stays func() bool, scrub func()) {
	raw, scrubRaw := lentRaw(api.Raw{Heads: q.Heads, Body: q.Body})
	list, headsStay := probe.GuardedRow(raw.Heads, api.Head{Name: "behind", Value: "it"})
	body, bodyStays := probe.Guarded(raw.Body)
	given = q
	given.Heads, given.Body = list, body
	scrubTexts := lentTexts(&given.Method, &given.Target, &given.Path, &given.Query, &given.Host)
	return given, func() bool { return headsStay() && bodyStays() }, func() {
		scrubRaw()
		scrubTexts()
		probe.Scrub(body)
	}
}

func TestP10_5RequestsStay(t *testing.T) {
	for _, q := range requests() {
		want := text(q)
		given, stays, scrub := lentRequest(q)
		may := request.May(given)
		b, err := request.Bytes(given)
		same := request.Same(given, q)
		before := string(b)
		if text(given) != want || !stays() || !same || may != (err == api.OK) {
			t.Errorf("%.200s is changed: %.200q", want, given)
		}
		scrub()
		if string(b) != before {
			t.Errorf("%.200q is %.200q behind a change of what was given", before, b)
		}
		second, _ := request.Bytes(q)
		third, _ := request.Bytes(q)
		probe.Scrub(second)
		if string(third) != before {
			t.Errorf("%.200q is %.200q behind a change of another answer", before, third)
		}
	}
}

func TestP10_5MessagesStay(t *testing.T) {
	for _, s := range goodMessages() {
		l, _ := request.Raws([]byte(s))
		want := text(l[0])
		given, scrub := lentRaw(l[0])
		list, headsStay := probe.GuardedRow(given.Heads, api.Head{Name: "behind", Value: "it"})
		body, bodyStays := probe.Guarded(given.Body)
		guarded := api.Raw{Start: given.Start, Heads: list, Body: body}
		q, err := request.Of(guarded)
		b, err2 := request.Write(guarded)
		before := fmt.Sprintf("%q %d %q %d", q, err, b, err2)
		if text(guarded) != want || !headsStay() || !bodyStays() {
			t.Errorf("%.200s is changed: %.200q", want, guarded)
		}
		scrub()
		probe.Scrub(body)
		for i := range list {
			list[i] = api.Head{}
		}
		if now := fmt.Sprintf("%q %d %q %d", q, err, b, err2); now != before {
			t.Errorf("%.700s is %.700s behind a change of what was given", before, now)
		}
		again, _ := request.Of(l[0])
		spoil(api.Raw{Heads: again.Heads, Body: again.Body})
		if text(l[0]) != want {
			t.Errorf("%.200s is %.200q behind a change of the request that it was", want, l[0])
		}
	}
}

func TestP10_5Hosts(t *testing.T) {
	for _, s := range []string{"a", "a.b:80", "A", "a:080", letters64} {
		given, memory := lentText(s)
		first := request.MayHost(given)
		if request.MayHost(given) != first || request.MayHost(s) != first || string(memory) != s {
			t.Errorf("%q is changed, or told of otherwise", s)
		}
	}
}
