package answer_test

import (
	"fmt"
	"math/rand"
	"slices"
	"strings"
	"testing"

	"gatepost/answer"
	"gatepost/api"
	"gatepost/probe"
)

func TestP11_1Reason(t *testing.T) {
	for code, want := range map[int]string{200: "OK", 204: "No Content", 400: "Bad Request", 403: "Forbidden", 404: "Not Found", 502: "Bad Gateway", 503: "Service Unavailable", 299: "Other", 201: "Other", 500: "Other", 504: "Other", 0: "Other"} {
		if got := answer.Reason(code); got != want {
			t.Errorf("%d: %q", code, got)
		}
	}
	for code := -1000; code < 3000; code++ {
		if got := answer.Reason(code); got != reasonOf(code) {
			t.Errorf("%d: %q", code, got)
		}
	}
	for _, code := range strangeCodes {
		if got := answer.Reason(code); got != "Other" {
			t.Errorf("%d: %q", code, got)
		}
	}
}

// checkMay tells if the answer may be, or has bytes, otherwise than by the words, and answers whether it may.
func checkMay(t *testing.T, a api.Answer) bool {
	t.Helper()
	want := isAnswer(a)
	if answer.May(a) != want {
		t.Errorf("May(%.700s): %v", text(a), !want)
	}
	wantBytes, wantErr := "", api.ErrArg
	if want {
		wantBytes, wantErr = bytesOf(a), api.OK
	}
	if b, err := answer.Bytes(a); string(b) != wantBytes || err != wantErr {
		t.Errorf("Bytes(%.700s): %.700q, %d; want %.700q, %d", text(a), b, err, wantBytes, wantErr)
	}
	return want
}

func TestP11_1MayCodes(t *testing.T) {
	for code := -1000; code < 3000; code++ {
		for _, a := range []api.Answer{{Code: code}, {Code: code, Heads: row("content-length", "2"), Body: []byte("no")}, {Code: code, Heads: row("transfer-encoding", "chunked")}} {
			if checkMay(t, a) != (code >= 200 && code <= 599) {
				t.Errorf("%s", text(a))
			}
		}
	}
	for _, code := range strangeCodes {
		if answer.May(api.Answer{Code: code}) || checkMay(t, api.Answer{Code: code}) {
			t.Errorf("%d may be", code)
		}
	}
}

// Good headers, some that may not be, and some that tell no body's end, or another body's.
func TestP11_1MayHeads(t *testing.T) {
	for _, a := range goodAnswers() {
		if !answer.May(a) || !checkMay(t, a) {
			t.Errorf("%.200s may not be", text(a))
		}
	}
	for _, l := range badHeads() {
		if a := (api.Answer{Code: 200, Heads: l}); answer.May(a) || checkMay(t, a) {
			t.Errorf("%.200s may be", text(a))
		}
	}
	for n := range 30 {
		if checkMay(t, api.Answer{Code: 200, Heads: manyHeads(n)}) != (n <= 24) {
			t.Errorf("%d headers", n)
		}
	}
	if checkMay(t, api.Answer{}) || checkMay(t, api.Answer{Heads: row("content-length", "2"), Body: []byte("no")}) {
		t.Error("an answer without a code may be")
	}
}

// Each size of a body, by chunks, by its length, by another one, and by nothing.
func TestP11_1MayBodies(t *testing.T) {
	long := string(probe.Bytes(2, 2000))
	for n := range 1200 {
		for _, x := range []struct {
			l    []api.Head
			want bool
		}{
			{row("transfer-encoding", "chunked"), n <= 1024},
			{row("content-length", fmt.Sprint(n)), n <= 1024},
			{row("content-length", fmt.Sprint(n+1)), false},
			{row("content-length", fmt.Sprint(n-1)), false},
			{row("content-length", "0"), n == 0},
			{row("x", fmt.Sprint(n)), n == 0},
			{nil, n == 0},
		} {
			if checkMay(t, api.Answer{Code: 200, Heads: x.l, Body: []byte(long[:n])}) != x.want {
				t.Errorf("%d bytes, %q: %v", n, x.l, !x.want)
			}
		}
	}
	if checkMay(t, api.Answer{Code: 200, Heads: row("transfer-encoding", "chunked"), Body: make([]byte, 1<<20)}) {
		t.Error("a body of 1048576 bytes may be")
	}
}

func TestP11_1Same(t *testing.T) {
	a := api.Answer{Code: 200, Heads: row("content-length", "3", "x", "y"), Body: []byte("abc")}
	change := []func(a *api.Answer){
		func(a *api.Answer) { a.Code = 201 },
		func(a *api.Answer) { a.Code = 200 + 1<<32 },
		func(a *api.Answer) { a.Code = -200 },
		func(a *api.Answer) { a.Heads = nil },
		func(a *api.Answer) { a.Heads = row("content-length", "3") },
		func(a *api.Answer) { a.Heads = row("x", "y", "content-length", "3") },
		func(a *api.Answer) { a.Heads = row("content-length", "3", "x", "z") },
		func(a *api.Answer) { a.Heads = row("content-length", "3", "X", "y") },
		func(a *api.Answer) { a.Heads = row("content-length", "3", "x", "y", "x", "y") },
		func(a *api.Answer) { a.Body = nil },
		func(a *api.Answer) { a.Body = []byte("ab") },
		func(a *api.Answer) { a.Body = []byte("abd") },
		func(a *api.Answer) { a.Body = []byte("abc\x00") },
	}
	others := []api.Answer{a, {}}
	for _, x := range change {
		b := a
		x(&b)
		others = append(others, b)
	}
	for i, x := range others {
		for j, y := range others {
			if answer.Same(x, y) != (i == j) {
				t.Errorf("Same(%s; %s): %v", text(x), text(y), i != j)
			}
		}
	}
	if !answer.Same(api.Answer{}, api.Answer{Heads: []api.Head{}, Body: []byte{}}) || !answer.Same(api.Answer{Body: []byte{}}, api.Answer{}) {
		t.Error("nil and empty lists are not one")
	}
}

func TestP11_3Bytes(t *testing.T) {
	for _, x := range []struct {
		a    api.Answer
		want string
	}{
		{api.Answer{Code: 403, Heads: row("content-length", "2"), Body: []byte("no")}, "HTTP/1.1 403 Forbidden\r\ncontent-length: 2\r\n\r\nno"},
		{api.Answer{Code: 200}, "HTTP/1.1 200 OK\r\n\r\n"},
		{api.Answer{Code: 204}, "HTTP/1.1 204 No Content\r\n\r\n"},
		{api.Answer{Code: 599, Heads: row("x", "", "a", "b c", "x", "d")}, "HTTP/1.1 599 Other\r\nx: \r\na: b c\r\nx: d\r\n\r\n"},
		{api.Answer{Code: 502, Heads: row("a", "b", "transfer-encoding", "Chunked"), Body: []byte("0123456789")}, "HTTP/1.1 502 Bad Gateway\r\na: b\r\ntransfer-encoding: Chunked\r\n\r\na\r\n0123456789\r\n0\r\n\r\n"},
		{api.Answer{Code: 503, Heads: row("transfer-encoding", "chunked")}, "HTTP/1.1 503 Service Unavailable\r\ntransfer-encoding: chunked\r\n\r\n0\r\n\r\n"},
		{api.Answer{Code: 400, Heads: row("content-length", "4"), Body: []byte("\r\n\r\n")}, "HTTP/1.1 400 Bad Request\r\ncontent-length: 4\r\n\r\n\r\n\r\n"},
		{api.Answer{Code: 404, Heads: row("transfer-encoding", "chunked"), Body: []byte(bytes1024)}, "HTTP/1.1 404 Not Found\r\ntransfer-encoding: chunked\r\n\r\n400\r\n" + bytes1024 + "\r\n0\r\n\r\n"},
	} {
		if b, err := answer.Bytes(x.a); string(b) != x.want || err != api.OK || !checkMay(t, x.a) {
			t.Errorf("%.200s: %.200q, %d", text(x.a), b, err)
		}
	}
}

func TestP11_3BytesOfNone(t *testing.T) {
	bad := []api.Answer{{}, {Code: 200, Body: []byte("no")}, {Code: 200, Heads: row("content-length", "3"), Body: []byte("no")}, {Code: 200, Heads: row("content-length", "2")}}
	for _, code := range strangeCodes {
		bad = append(bad, api.Answer{Code: code, Heads: row("content-length", "2"), Body: []byte("no")})
	}
	for _, l := range badHeads() {
		bad = append(bad, api.Answer{Code: 200, Heads: l})
	}
	for _, a := range bad {
		if b, err := answer.Bytes(a); len(b) != 0 || err != api.ErrArg || checkMay(t, a) {
			t.Errorf("%.200s: %.200q, %d", text(a), b, err)
		}
	}
}

// Answers with a header, a code or a body changed: whether they may be, and their bytes, as the words say.
func TestP11_3BytesMany(t *testing.T) {
	r := rand.New(rand.NewSource(1))
	fine, bad := 0, 0
	for range 5000 {
		a := someAnswer(r)
		if !checkMay(t, a) {
			t.Fatalf("%.700s may not be", text(a))
		}
		a.Heads = slices.Clone(a.Heads)
		if n := len(a.Heads); n > 0 {
			h := &a.Heads[r.Intn(n)]
			h.Name, h.Value = edited(r, h.Name), edited(r, h.Value)
		}
		a.Code += (r.Intn(3) - 1) * r.Intn(300)
		if r.Intn(4) == 0 {
			a.Body = []byte(edited(r, string(a.Body)))
		}
		if checkMay(t, a) {
			fine++
		} else {
			bad++
		}
	}
	if fine < 1000 || bad < 1000 {
		t.Errorf("%d are fine, %d are not: not both often", fine, bad)
	}
}

// checkSimple tells if the simple answer is another one than by the words, and answers whether there is one.
func checkSimple(t *testing.T, code int, body string) bool {
	t.Helper()
	want, wantErr := api.Answer{}, api.ErrArg
	if code >= 200 && code <= 599 && len(body) <= 1024 {
		want, wantErr = api.Answer{Code: code, Heads: row("content-length", fmt.Sprint(len(body))), Body: []byte(body)}, api.OK
	}
	a, err := answer.Simple(code, body)
	if text(a) != text(want) || err != wantErr {
		t.Errorf("Simple(%d, %.200q): %.200s, %d; want %.200s, %d", code, body, text(a), err, text(want), wantErr)
	}
	if err == api.OK && (!answer.May(a) || !checkMay(t, a)) {
		t.Errorf("Simple(%d, %.200q) may not be", code, body)
	}
	return err == api.OK
}

func TestP11_4Simple(t *testing.T) {
	a, err := answer.Simple(403, "no")
	if text(a) != text(api.Answer{Code: 403, Heads: row("content-length", "2"), Body: []byte("no")}) || err != api.OK {
		t.Errorf("%s, %d", text(a), err)
	}
	if b, err := answer.Bytes(a); string(b) != "HTTP/1.1 403 Forbidden\r\ncontent-length: 2\r\n\r\nno" || err != api.OK {
		t.Errorf("%q, %d", b, err)
	}
	long := string(probe.Bytes(3, 2000))
	for n := range 1200 {
		if checkSimple(t, 200, long[:n]) != (n <= 1024) {
			t.Errorf("%d bytes", n)
		}
	}
	for code := -1000; code < 3000; code++ {
		for _, body := range []string{"", "no", "\r\n\r\n", "\xff\x00", bytes1024} {
			if checkSimple(t, code, body) != (code >= 200 && code <= 599) {
				t.Errorf("%d, %.20q", code, body)
			}
		}
	}
	for _, code := range strangeCodes {
		checkSimple(t, code, "")
		checkSimple(t, code, strings.Repeat("a", 1025))
	}
	for _, n := range []int{1025, 9999, 1 << 16, 1<<16 + 2, 1 << 20} {
		checkSimple(t, 200, strings.Repeat("a", n))
	}
}
