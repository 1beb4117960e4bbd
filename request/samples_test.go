package request_test

import (
	"fmt"
	"math/rand"
	"regexp"
	"slices"
	"strconv"
	"strings"
	"testing"
	"unsafe"

	"gatepost/api"
	"gatepost/heads"
	"gatepost/path"
	"gatepost/probe"
	"gatepost/request"
)

// waits stands in the place of an error where the bytes are not all there yet.
const waits = api.Errno(-1)

// The words of requests' first lines, of methods, of hosts and of chunks' sizes, for the library's expressions; \z, as $ would let a line's end follow.
var (
	firstForm  = regexp.MustCompile(`\A([A-Z]{1,16}) ([^ ]*) HTTP/1\.1\z`)
	hostForm   = regexp.MustCompile(`\A[a-z0-9.-]+(?::([1-9][0-9]{0,4}))?\z`)
	sizeForm   = regexp.MustCompile(`\A[1-9a-fA-F][0-9a-fA-F]{0,3}\z`)
	largeForm  = regexp.MustCompile(`[A-Z]`)
	smallForm  = regexp.MustCompile(`[a-z]`)
	startForm  = regexp.MustCompile(`\A[\x20-\x7e]+\z`)
	letters64  = strings.Repeat("abc-0.9z", 8)
	method16   = "ABCDEFGHIJKLMNOZ"
	value512   = strings.Repeat("ab c\td~:", 63) + "0123456/"
	target512  = "/" + strings.Repeat("abc/%3B?", 63) + "tuvwxyz"
	start578   = strings.Repeat("GET / HT", 72) + "/1"
	bytes1024  = string(probe.Bytes(1, 1024))
	chunkedTop = wire("POST / HTTP/1.1", "Host: a", "Transfer-Encoding: chunked", "", "")
)

// wire answers the lines with a line's end between each two.
func wire(l ...string) string { return strings.Join(l, "\r\n") }

// row answers headers of names and values in turn.
func row(l ...string) []api.Head {
	var out []api.Head
	for i := 0; i < len(l); i += 2 {
		out = append(out, api.Head{Name: l[i], Value: l[i+1]})
	}
	return out
}

// cutLine answers by the words the line at the front of s, and what is behind it.
func cutLine(s string) (line, rest string, e api.Errno) {
	i := strings.IndexAny(s, "\r\n")
	switch {
	case i > 578 || i < 0 && len(s) > 578:
		return "", "", api.ErrLong
	case i < 0 || s[i:] == "\r":
		return "", "", waits
	case strings.HasPrefix(s[i:], "\r\n"):
		return s[:i], s[i+2:], api.OK
	}
	return "", "", api.ErrForm
}

// cutEmpty answers what is behind the empty line at the front of s.
func cutEmpty(s string) (rest string, e api.Errno) {
	line, rest, e := cutLine(s)
	if e == api.OK && line != "" {
		return "", api.ErrForm
	}
	return rest, e
}

// cutChunks answers by the words the body that is told by chunks at the front of s, and what is behind it.
func cutChunks(s string) (body, rest string, e api.Errno) {
	for {
		line, behind, e := cutLine(s)
		if e != api.OK {
			return "", "", e
		}
		if line == "0" {
			rest, e := cutEmpty(behind)
			return body, rest, e
		}
		n, _ := strconv.ParseInt(line, 16, 64)
		switch {
		case !sizeForm.MatchString(line):
			return "", "", api.ErrForm
		case len(body)+int(n) > 1024:
			return "", "", api.ErrLong
		case len(behind) < int(n):
			return "", "", waits
		}
		body += behind[:n]
		if s, e = cutEmpty(behind[n:]); e != api.OK {
			return "", "", e
		}
	}
}

// cutHeads answers by the words the headers at the front of s, and what is behind the empty line behind them.
func cutHeads(s string) (l []api.Head, rest string, e api.Errno) {
	for {
		line, behind, e := cutLine(s)
		if e != api.OK || line == "" {
			return l, behind, e
		}
		h, e := heads.Read(line)
		if e != api.OK {
			return nil, "", e
		}
		if len(l) == 24 {
			return nil, "", api.ErrFull
		}
		l, s = append(l, h), behind
	}
}

// cutMessage answers by the words the message at the front of s, and what is behind it.
func cutMessage(s string) (r api.Raw, rest string, e api.Errno) {
	if r.Start, s, e = cutLine(s); e != api.OK {
		return r, "", e
	}
	if r.Heads, s, e = cutHeads(s); e != api.OK {
		return r, "", e
	}
	end, e := heads.Framing(r.Heads...)
	switch {
	case e != api.OK:
		return r, "", e
	case end.Chunked == 1:
		body, rest, e := cutChunks(s)
		r.Body = []byte(body)
		return r, rest, e
	case len(s) < end.Length:
		return r, "", waits
	}
	r.Body = []byte(s[:end.Length])
	return r, s[end.Length:], api.OK
}

// messages answers by the words the messages that are whole in s, and the fault that is behind them; waits, if one has begun.
func messages(s string) (l []api.Raw, e api.Errno) {
	for s != "" {
		r, rest, e := cutMessage(s)
		if e != api.OK {
			return l, e
		}
		l, s = append(l, r), rest
	}
	return l, api.OK
}

// low answers the text in small letters.
func low(s string) string { return largeForm.ReplaceAllStringFunc(s, strings.ToLower) }

// high answers the text with A to Z in the place of a to z.
func high(s string) string { return smallForm.ReplaceAllStringFunc(s, strings.ToUpper) }

// isHost tells by the words whether the text may be a host, and whether it has a port.
func isHost(s string) (may, port bool) {
	parts := hostForm.FindStringSubmatch(s)
	if parts == nil || len(s) > 64 {
		return false, false
	}
	n, _ := strconv.Atoi(parts[1])
	return n <= 65535, n > 0
}

// requestOf answers by the words the request that the message is, and whether it is one.
func requestOf(r api.Raw) (q api.Request, ok bool) {
	parts := firstForm.FindStringSubmatch(r.Start)
	hosts := slices.DeleteFunc(slices.Clone(r.Heads), func(h api.Head) bool { return h.Name != "host" })
	if parts == nil || len(hosts) != 1 {
		return api.Request{}, false
	}
	q = api.Request{Method: parts[1], Target: parts[2], Host: low(hosts[0].Value), Heads: r.Heads, Body: r.Body}
	if may, _ := isHost(q.Host); !may {
		return api.Request{}, false
	}
	if q.Method == "CONNECT" {
		may, port := isHost(low(q.Target))
		if !may || !port {
			return api.Request{}, false
		}
		return q, true
	}
	var err api.Errno
	if q.Path, q.Query, err = path.Normal(q.Target); err != api.OK {
		return api.Request{}, false
	}
	return q, true
}

// fits tells by the words whether the headers may be, and have a framing that the body fits.
func fits(l []api.Head, body []byte) bool {
	end, err := heads.Framing(l...)
	switch {
	case err != api.OK || !heads.May(l...) || len(body) > 1024:
		return false
	case end.Chunked == 1:
		return true
	case end.Has == 1:
		return len(body) == end.Length
	}
	return len(body) == 0
}

// isRequest tells by the words whether the request may be.
func isRequest(q api.Request) bool {
	read, ok := requestOf(api.Raw{Start: fmt.Sprintf("%s %s HTTP/1.1", q.Method, q.Target), Heads: q.Heads})
	return ok && read.Path == q.Path && read.Query == q.Query && read.Host == q.Host && fits(q.Heads, q.Body)
}

// bytesOf answers by the words the bytes of a message.
func bytesOf(r api.Raw) string {
	l := []string{r.Start}
	chunked := false
	for _, h := range r.Heads {
		l = append(l, h.Name+": "+h.Value)
		chunked = chunked || h.Name == "transfer-encoding"
	}
	s := wire(append(l, "", "")...)
	switch {
	case chunked && len(r.Body) > 0:
		return s + fmt.Sprintf("%x\r\n%s\r\n0\r\n\r\n", len(r.Body), r.Body)
	case chunked:
		return s + "0\r\n\r\n"
	}
	return s + string(r.Body)
}

// text tells a message, a request, a reading, or a row of them, whole; nil and empty lists are one.
func text(x any) string {
	if p, ok := x.(api.Parsing); ok {
		return fmt.Sprintf("%d %q %q %d %d", p.Phase, p.Line, p.Raw, p.Left, p.Err)
	}
	return fmt.Sprintf("%q", x)
}

// pieces answers s cut at the places, which rise.
func pieces(s string, places ...int) []string {
	var l []string
	from := 0
	for _, to := range append(places, len(s)) {
		l = append(l, s[from:to])
		from = to
	}
	return l
}

// fed answers the reading, and the messages, of the pieces one behind the other.
func fed(p api.Parsing, l ...string) (api.Parsing, []api.Raw) {
	var whole []api.Raw
	for _, s := range l {
		var more []api.Raw
		p, more = request.Feed(p, []byte(s))
		whole = append(whole, more...)
	}
	return p, whole
}

// checkRead tells if s is read otherwise than by the words, and answers how many messages it has, and the fault.
func checkRead(t *testing.T, s string) (int, api.Errno) {
	t.Helper()
	want, state := messages(s)
	fault := max(state, api.OK)
	p, got := request.Feed(request.New(), []byte(s))
	if text(got) != text(want) || p.Err != fault || request.Idle(p) != (state == api.OK) {
		t.Errorf("Feed(%.700q): %.700q, %d, idle %v; want %.700q, %d", s, got, p.Err, request.Idle(p), want, state)
	}
	if fault != api.OK && text(p) != text(api.Parsing{Err: fault}) || state == api.OK && text(p) != text(request.New()) {
		t.Errorf("Feed(%.700q): the reading is %.700s", s, text(p))
	}
	if state != api.OK {
		want = nil
	}
	if state == waits {
		fault = api.ErrForm
	}
	if got, err := request.Raws([]byte(s)); text(got) != text(want) || err != fault {
		t.Errorf("Raws(%.700q): %.700q, %d; want %.700q, %d", s, got, err, want, fault)
	}
	checkOne(t, s, want, fault)
	return len(want), fault
}

// checkOne tells if s, that is these messages, or has that fault, is another request than by the words.
func checkOne(t *testing.T, s string, l []api.Raw, fault api.Errno) {
	t.Helper()
	var want api.Request
	if fault == api.OK {
		fault = api.ErrForm
		if len(l) == 1 {
			if q, ok := requestOf(l[0]); ok {
				want, fault = q, api.OK
			}
		}
	}
	if q, err := request.One([]byte(s)); text(q) != text(want) || err != fault {
		t.Errorf("One(%.700q): %.700q, %d; want %.700q, %d", s, q, err, want, fault)
	}
}

// someText answers a text of up to most of the letters; r says which.
func someText(r *rand.Rand, most int, letters string) string {
	n := r.Intn(min(most, 8) + 1)
	if r.Intn(8) == 0 {
		n = r.Intn(most + 1)
	}
	b := make([]byte, n)
	for i := range b {
		b[i] = letters[r.Intn(len(letters))]
	}
	return string(b)
}

// pick answers one of the texts; r says which.
func pick(r *rand.Rand, l ...string) string { return l[r.Intn(len(l))] }

// withPort answers the host with the port behind it, of its letters as many as there is room for.
func withPort(s, port string) string {
	return s[:min(len(s), 63-len(port))] + ":" + port
}

// someHost answers a host, in letters of both sizes, and a port in each second one, or always; r says which.
func someHost(r *rand.Rand, always bool) string {
	s := pick(r, "a", "A.b", "web-1.shop", "10.0.0.1", "-", ".", letters64, someText(r, 63, "abcXYZ019.-")+"a")
	if always || r.Intn(2) == 0 {
		s = withPort(s, pick(r, "80", "1", "65535", "8080", strconv.Itoa(1+r.Intn(65535))))
	}
	return s
}

// someRequest answers a request that may be; r says which.
func someRequest(r *rand.Rand) api.Request {
	q := api.Request{Method: pick(r, "GET", "POST", "CONNECT", "A", method16, "CONNECTS", "ONNECT"), Target: pick(r, "/", "/a//b?x", "/a/../%7e?%2f??", "/a/b/c/", target512, "/?")}
	if q.Method == "CONNECT" {
		q.Target = someHost(r, true)
	}
	q.Path, q.Query, _ = path.Normal(q.Target)
	host := someHost(r, false)
	q.Host = low(host)
	q.Heads = row("host", host)
	for range r.Intn(4) + r.Intn(2)*r.Intn(19) {
		value := strings.Trim(someText(r, 512, "ab: \t,~0"), " \t")
		q.Heads = slices.Insert(q.Heads, r.Intn(len(q.Heads)+1), api.Head{Name: pick(r, "x", "accept", "hosts", "x-host", letters64), Value: value})
	}
	body := pick(r, "", "abc", "\r\n", "0\r\n\r\n", bytes1024, bytes1024[:r.Intn(1025)], "GET / HTTP/1.1\r\nHost: a\r\n\r\n")
	end := api.Head{Name: "content-length", Value: strconv.Itoa(len(body))}
	switch r.Intn(4) {
	case 0:
		return q
	case 1:
		end = api.Head{Name: "transfer-encoding", Value: pick(r, "chunked", "Chunked", "CHUNKED")}
	}
	q.Body = []byte(body)
	q.Heads = slices.Insert(q.Heads, r.Intn(len(q.Heads)+1), end)
	return q
}

// someSpelling answers bytes that say the request, in one of the ways that are read as it; r says which.
func someSpelling(r *rand.Rand, q api.Request) string {
	l := []string{q.Method + " " + q.Target + " HTTP/1.1"}
	chunked := false
	for _, h := range q.Heads {
		name := pick(r, h.Name, high(h.Name), high(h.Name[:1])+h.Name[1:])
		l = append(l, name+":"+pick(r, "", " ", "\t", " \t ")+h.Value+pick(r, "", " ", "\t\t"))
		chunked = chunked || h.Name == "transfer-encoding"
	}
	for i, line := range l {
		if len(line) > 578 {
			l[i] = q.Heads[i-1].Name + ": " + q.Heads[i-1].Value
		}
	}
	s := wire(append(l, "", "")...)
	if !chunked {
		return s + string(q.Body)
	}
	for b := string(q.Body); b != ""; {
		n := 1 + r.Intn(len(b))
		s += pick(r, fmt.Sprintf("%x", n), fmt.Sprintf("%X", n)) + "\r\n" + b[:n] + "\r\n"
		b = b[n:]
	}
	return s + "0\r\n\r\n"
}

// edited answers s with some bytes put in, taken out or changed; r says which.
func edited(r *rand.Rand, s string) string {
	return probe.Edited(s, "\r\n\r\n  ::aZ019/.-?%\t\x00\x7f\xff", r.Intn)
}

// lentText answers s in memory that can be scrubbed.
func lentText(s string) (string, []byte) {
	b := []byte(s)
	return unsafe.String(unsafe.SliceData(b), len(b)), b
}

// lentTexts makes each of the texts one in memory that scrub makes others.
func lentTexts(l ...*string) (scrub func()) {
	var memory [][]byte
	for _, s := range l {
		given, b := lentText(*s)
		*s = given
		memory = append(memory, b)
	}
	return func() {
		for _, b := range memory {
			probe.Scrub(b)
		}
	}
}

// lentRaw answers the message in memory that scrub makes another one.
func lentRaw(r api.Raw) (given api.Raw, scrub func()) {
	given = api.Raw{Start: r.Start, Heads: slices.Clone(r.Heads), Body: slices.Clone(r.Body)}
	texts := []*string{&given.Start}
	for i := range given.Heads {
		texts = append(texts, &given.Heads[i].Name, &given.Heads[i].Value)
	}
	scrubTexts := lentTexts(texts...)
	return given, func() {
		scrubTexts()
		probe.Scrub(given.Body)
		for i := range given.Heads {
			given.Heads[i] = api.Head{Name: "scrubbed", Value: "it"}
		}
	}
}
