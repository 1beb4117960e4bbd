package answer_test

import (
	"fmt"
	"math/rand"
	"regexp"
	"slices"
	"strconv"
	"strings"
	"unsafe"

	"gatepost/api"
	"gatepost/heads"
	"gatepost/probe"
)

// The words of answers' first lines, for the library's expressions; \z, as $ would let a line's end follow.
var (
	firstForm = regexp.MustCompile(`\AHTTP/1\.1 ([2-5][0-9][0-9]) [\x20-\x7e]*\z`)
	smallForm = regexp.MustCompile(`[a-z]`)
	letters64 = strings.Repeat("abc-0.9z", 8)
	value512  = strings.Repeat("ab c\td~:", 63) + "0123456/"
	bytes1024 = string(probe.Bytes(1, 1024))
)

// reasons are the codes' reasons, by the document.
var reasons = map[int]string{200: "OK", 204: "No Content", 400: "Bad Request", 403: "Forbidden", 404: "Not Found", 502: "Bad Gateway", 503: "Service Unavailable"}

// strangeCodes are codes that no answer has.
var strangeCodes = []int{199, 600, 0, 1, -1, 2, 20, 99, 100, 101, 198, 601, 999, 1000, 2000, 2002, 5990, -200, -599, -403, 200 - 256, 200 + 512, 200 + 1<<16, 403 + 1<<16, 200 + 1<<32, 200 - 1<<32, 503 + 1<<33, 1<<31 - 1, -1 << 31, 1<<63 - 1, -1 << 63, -1<<63 + 200}

// wire answers the lines with a line's end between each two.
func wire(l ...string) string { return strings.Join(l, "\r\n") }

// row answers headers of names and values in turn.
func row(l ...string) []api.Head {
	var out []api.Head
	for i := 0; i < len(l); i += 2 {
		out = append(out, api.Head{Name: l[i], Value: l[i+1]})
	}
	return out
}

// manyHeads answers n headers.
func manyHeads(n int) []api.Head { return slices.Repeat(row("x", "y"), n) }

// text tells an answer whole; nil and empty lists are one.
func text(a api.Answer) string { return fmt.Sprintf("%d %q %q", a.Code, a.Heads, a.Body) }

// reasonOf answers by the words the code's reason.
func reasonOf(code int) string {
	if s := reasons[code]; s != "" {
		return s
	}
	return "Other"
}

// fits tells by the words whether the headers may be, and have a framing that the body fits.
func fits(l []api.Head, body []byte) bool {
	end, err := heads.Framing(l...)
	switch {
	case err != api.OK || !heads.May(l...) || len(body) > 1024:
		return false
	case end.Chunked == 1:
		return true
	case end.Has == 1:
		return len(body) == end.Length
	}
	return len(body) == 0
}

// isAnswer tells by the words whether the answer may be.
func isAnswer(a api.Answer) bool { return a.Code >= 200 && a.Code <= 599 && fits(a.Heads, a.Body) }

// answerOf answers by the words the answer that the message is, and whether it is one.
func answerOf(r api.Raw) (a api.Answer, ok bool) {
	parts := firstForm.FindStringSubmatch(r.Start)
	if parts == nil || !fits(r.Heads, r.Body) {
		return api.Answer{}, false
	}
	code, _ := strconv.Atoi(parts[1])
	return api.Answer{Code: code, Heads: r.Heads, Body: r.Body}, true
}

// bytesOf answers by the words the bytes of an answer that may be.
func bytesOf(a api.Answer) string {
	l := []string{fmt.Sprintf("HTTP/1.1 %d %s", a.Code, reasonOf(a.Code))}
	chunked := false
	for _, h := range a.Heads {
		l = append(l, h.Name+": "+h.Value)
		chunked = chunked || h.Name == "transfer-encoding"
	}
	s := wire(append(l, "", "")...)
	switch {
	case chunked && len(a.Body) > 0:
		return s + fmt.Sprintf("%x\r\n%s\r\n0\r\n\r\n", len(a.Body), a.Body)
	case chunked:
		return s + "0\r\n\r\n"
	}
	return s + string(a.Body)
}

// goodAnswers are answers that may be.
func goodAnswers() []api.Answer {
	return []api.Answer{
		{Code: 200},
		{Code: 503, Heads: row("content-length", "0")},
		{Code: 403, Heads: row("content-length", "2"), Body: []byte("no")},
		{Code: 204, Heads: row("x", "", "a", "b c", "x", "d")},
		{Code: 400, Heads: row("transfer-encoding", "chunked"), Body: []byte("abc")},
		{Code: 404, Heads: row("a", "b", "transfer-encoding", "CHUNKED")},
		{Code: 502, Heads: row("content-length", "4", "a", "b"), Body: []byte("\r\n\r\n")},
		{Code: 599, Heads: append(manyHeads(23), row("content-length", "1024")...), Body: []byte(bytes1024)},
		{Code: 299, Heads: row(letters64, value512, "transfer-encoding", "Chunked"), Body: []byte(bytes1024)},
		{Code: 301, Heads: row("host", "a", "content-length", "41"), Body: []byte("HTTP/1.1 200 OK\r\nContent-Length: 3\r\n\r\nabc")},
	}
}

// badHeads are headers that may not be, or that tell no body's end, or that of a body that is not empty.
func badHeads() [][]api.Head {
	return [][]api.Head{
		row("A", "b"), row("", ""), row("a b", ""), row("a:", ""), row("a", " "), row("a", "b "), row("a", "b\r\nc: d"), row("a", "\n"), row("a", "\x00"), row("a", "\x7f"), row("a", "\u00e9"), row("\u212a", ""), row("a", value512+"a"), row(letters64+"a", ""), row("a", "b", "c", "d", "E", "f"),
		manyHeads(25), manyHeads(26), manyHeads(1000), append(manyHeads(24), row("content-length", "0")...),
		row("content-length", ""), row("content-length", "x"), row("content-length", "00"), row("content-length", "+0"), row("content-length", "-0"), row("content-length", "0, 0"), row("content-length", "1025"), row("content-length", "99999999999999999999"), row("content-length", "1"), row("content-length", "0", "content-length", "0"), row("content-length", "0", "transfer-encoding", "chunked"), row("transfer-encoding", "chunked", "content-length", "0"), row("transfer-encoding", "chunked", "transfer-encoding", "chunked"), row("transfer-encoding", ""), row("transfer-encoding", "gzip"), row("transfer-encoding", "gzip, chunked"), row("transfer-encoding", "chun\u212aed"), row("transfer-encoding", "chunked", "A", "b"), row("content-length", "0", "a", "\n"),
	}
}

// pick answers one of the texts; r says which.
func pick(r *rand.Rand, l ...string) string { return l[r.Intn(len(l))] }

// someAnswer answers an answer that may be; r says which.
func someAnswer(r *rand.Rand) api.Answer {
	a := api.Answer{Code: 200 + r.Intn(400)}
	if r.Intn(2) == 0 {
		a.Code, _ = strconv.Atoi(pick(r, "200", "204", "400", "403", "404", "502", "503", "599"))
	}
	for range r.Intn(4) + r.Intn(2)*r.Intn(20) {
		a.Heads = append(a.Heads, api.Head{Name: pick(r, "x", "host", "set-cookie", "lengths", letters64), Value: pick(r, "", "a", "a \t b", "HTTP/1.1 200 OK", value512, value512[:r.Intn(63)*8+1])})
	}
	body := pick(r, "", "abc", "\r\n", "0\r\n\r\n", bytes1024, bytes1024[:r.Intn(1025)], "HTTP/1.1 200 OK\r\n\r\n")
	end := api.Head{Name: "content-length", Value: strconv.Itoa(len(body))}
	switch r.Intn(4) {
	case 0:
		return a
	case 1:
		end = api.Head{Name: "transfer-encoding", Value: pick(r, "chunked", "Chunked", "CHUNKED")}
	}
	a.Body = []byte(body)
	a.Heads = slices.Insert(a.Heads, r.Intn(len(a.Heads)+1), end)
	return a
}

// someStart answers a first line of an answer of that code, with one reason or another; r says which.
func someStart(r *rand.Rand, code int) string {
	return fmt.Sprintf("HTTP/1.1 %d %s", code, pick(r, reasonOf(code), "", " ", "x", "OK", "404 Not Found", "HTTP/1.1 500", "!\"#~", strings.Repeat("y", 565)))
}

// someSpelling answers bytes that say the answer, in one of the ways that are read as it; r says which.
func someSpelling(r *rand.Rand, a api.Answer) string {
	l := []string{someStart(r, a.Code)}
	chunked := false
	for _, h := range a.Heads {
		name := pick(r, h.Name, smallForm.ReplaceAllStringFunc(h.Name, strings.ToUpper))
		line := name + ":" + pick(r, "", " ", "\t", " \t ") + h.Value + pick(r, "", " ", "\t\t")
		if len(line) > 578 {
			line = h.Name + ": " + h.Value
		}
		l = append(l, line)
		chunked = chunked || h.Name == "transfer-encoding"
	}
	s := wire(append(l, "", "")...)
	if !chunked {
		return s + string(a.Body)
	}
	for b := string(a.Body); b != ""; {
		n := 1 + r.Intn(len(b))
		s += pick(r, fmt.Sprintf("%x", n), fmt.Sprintf("%X", n)) + "\r\n" + b[:n] + "\r\n"
		b = b[n:]
	}
	return s + "0\r\n\r\n"
}

// edited answers s with some bytes put in, taken out or changed; r says which.
func edited(r *rand.Rand, s string) string {
	return probe.Edited(s, "\r\n\r\n  ::aZ012569/.-+\t\x00\x7f\xff", r.Intn)
}

// lentText answers s in memory that can be scrubbed.
func lentText(s string) (string, []byte) {
	b := []byte(s)
	return unsafe.String(unsafe.SliceData(b), len(b)), b
}

// lentRaw answers the message, with room behind its lists, in memory that scrub makes another one; stays tells whether the lists and the room are as they were.
func lentRaw(r api.Raw) (given api.Raw, stays func() bool, scrub func()) {
	start, memory := lentText(r.Start)
	texts := [][]byte{memory}
	var l []api.Head
	for _, h := range r.Heads {
		name, nameBytes := lentText(h.Name)
		value, valueBytes := lentText(h.Value)
		l = append(l, api.Head{Name: name, Value: value})
		texts = append(texts, nameBytes, valueBytes)
	}
	list, headsStay := probe.GuardedRow(l, api.Head{Name: "behind", Value: "it"})
	body, bodyStays := probe.Guarded(r.Body)
	given = api.Raw{Start: start, Heads: list, Body: body}
	return given, func() bool { return headsStay() && bodyStays() }, func() {
		for _, b := range texts {
			probe.Scrub(b)
		}
		spoil(api.Answer{Heads: list, Body: body})
	}
}

// spoil makes the answer's lists, and the room behind them, others.
func spoil(a api.Answer) {
	probe.Scrub(a.Body)
	l := a.Heads[:cap(a.Heads)]
	for i := range l {
		l[i] = api.Head{Name: "other", Value: "one"}
	}
}
