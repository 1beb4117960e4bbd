package answer_test

import (
	"fmt"
	"testing"

	"gatepost/answer"
	"gatepost/api"
	"gatepost/probe"
)

// messages are some that are answers, and some that are none.
func messages() []api.Raw {
	var l []api.Raw
	for _, a := range goodAnswers() {
		for _, start := range []string{"HTTP/1.1 503 x y", "HTTP/1.1 200 ", "HTTP/1.1 600 x"} {
			l = append(l, api.Raw{Start: start, Heads: a.Heads, Body: a.Body})
		}
	}
	return append(l, api.Raw{}, api.Raw{Start: "HTTP/1.1 200 OK", Heads: row("A", " "), Body: []byte("abc")})
}

func TestP11_5MessagesStay(t *testing.T) {
	for _, r := range messages() {
		want := fmt.Sprintf("%q", r)
		given, stays, scrub := lentRaw(r)
		a, err := answer.Of(given)
		before := text(a)
		if fmt.Sprintf("%q", given) != want || !stays() {
			t.Errorf("%.200s is changed: %.200q", want, given)
		}
		scrub()
		if text(a) != before {
			t.Errorf("%.200s, %d is %.200s behind a change of what was given", before, err, text(a))
		}
		again, _ := answer.Of(r)
		spoil(again)
		if fmt.Sprintf("%q", r) != want {
			t.Errorf("%.200s is %.200q behind a change of the answer that it was", want, r)
		}
	}
}

func TestP11_5AnswersStay(t *testing.T) {
	for _, r := range messages() {
		for _, code := range []int{200, 403, 0} {
			raw, stays, scrub := lentRaw(r)
			given := api.Answer{Code: code, Heads: raw.Heads, Body: raw.Body}
			want := text(api.Answer{Code: code, Heads: r.Heads, Body: r.Body})
			may := answer.May(given)
			b, err := answer.Bytes(given)
			same := answer.Same(given, api.Answer{Code: code, Heads: r.Heads, Body: r.Body})
			before := string(b)
			if text(given) != want || !stays() || !same || may != (err == api.OK) {
				t.Errorf("%.200s is changed: %.200s", want, text(given))
			}
			scrub()
			if string(b) != before {
				t.Errorf("%.200q is %.200q behind a change of what was given", before, b)
			}
		}
	}
}

func TestP11_5BytesStay(t *testing.T) {
	for _, a := range goodAnswers() {
		s := bytesOf(a)
		for _, s := range []string{s, s + s, s[1:], s[:len(s)-1]} {
			given, stays := probe.Guarded([]byte(s))
			first, err := answer.One(given)
			second, err2 := answer.One(given)
			if before := text(first); before != text(second) || err != err2 || !stays() {
				t.Errorf("%.200q is changed, or told of otherwise", s)
			}
			before := text(first)
			probe.Scrub(given)
			spoil(second)
			if text(first) != before {
				t.Errorf("%.200s is %.200s behind a change of what was given, or of another answer", before, text(first))
			}
		}
	}
}

func TestP11_5SimpleStays(t *testing.T) {
	for _, s := range []string{"", "no", bytes1024, bytes1024 + "a"} {
		given, memory := lentText(s)
		first, _ := answer.Simple(200, given)
		second, _ := answer.Simple(200, given)
		before := text(first)
		if string(memory) != s {
			t.Errorf("%.200q is changed: %.200q", s, memory)
		}
		probe.Scrub(memory)
		spoil(second)
		if text(first) != before {
			t.Errorf("%.200s is %.200s behind a change of what was given, or of another answer", before, text(first))
		}
	}
}

// No two answers' bytes are in one memory.
func TestP11_5BytesAreApart(t *testing.T) {
	for _, a := range goodAnswers() {
		want := text(a)
		first, _ := answer.Bytes(a)
		second, _ := answer.Bytes(a)
		before := string(first)
		probe.Scrub(second)
		if string(first) != before || text(a) != want {
			t.Errorf("%.200q is %.200q behind a change of other bytes", before, first)
		}
	}
}
