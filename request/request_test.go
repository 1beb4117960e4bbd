package request_test

import (
	"bufio"
	"fmt"
	"io"
	"math/rand"
	"net/http"
	"slices"
	"strings"
	"testing"

	"gatepost/api"
	"gatepost/heads"
	"gatepost/probe"
	"gatepost/request"
)

// checkOf tells if the message is another request than by the words, and answers whether it is one.
func checkOf(t *testing.T, r api.Raw) bool {
	t.Helper()
	want, ok := requestOf(r)
	wantErr := api.ErrForm
	if ok {
		wantErr = api.OK
	}
	if q, err := request.Of(r); text(q) != text(want) || err != wantErr {
		t.Errorf("Of(%.700q): %.700q, %d; want %.700q, %d", r, q, err, want, wantErr)
	}
	return ok
}

// checkFirst tells if a message with that first line, and the header host, is otherwise than that a request.
func checkFirst(t *testing.T, start string, want bool) {
	t.Helper()
	if got := checkOf(t, api.Raw{Start: start, Heads: row("host", "a")}); got != want {
		t.Errorf("%.700q: a request %v", start, got)
	}
}

func TestP10_3Examples(t *testing.T) {
	get, post, twice := "GET /a//b?x HTTP/1.1\r\nHost: A.b\r\n\r\n", chunkedTop+"3\r\nabc\r\n0\r\n\r\n", "GET / HTTP/1.1\r\nHost: a\r\nHost: b\r\n\r\n"
	for _, x := range []struct {
		s    string
		want api.Request
	}{
		{get, api.Request{Method: "GET", Target: "/a//b?x", Path: "/a/b", Query: "x", Host: "a.b", Heads: row("host", "A.b")}},
		{post, api.Request{Method: "POST", Target: "/", Path: "/", Host: "a", Heads: row("host", "a", "transfer-encoding", "chunked"), Body: []byte("abc")}},
		{"CONNECT a.b:80 HTTP/1.1\r\nHost: a.b:80\r\n\r\n", api.Request{Method: "CONNECT", Target: "a.b:80", Host: "a.b:80", Heads: row("host", "a.b:80")}},
	} {
		if q, err := request.One([]byte(x.s)); text(q) != text(x.want) || err != api.OK || !request.Same(q, x.want) {
			t.Errorf("%q: %q, %d", x.s, q, err)
		}
		checkRead(t, x.s)
	}
	for _, s := range []string{strings.Replace(post, "Host", "Content-Length: 3\r\nHost", 1), twice, "GET / HTTP/1.1\nHost: a\r\n\r\n", "GET / HTTP/1.1\r\nHost: a\n\r\n", "GET / HTTP/1.1\r\nHost: a\r\n\n"} {
		if q, err := request.One([]byte(s)); text(q) != text(api.Request{}) || err != api.ErrForm {
			t.Errorf("%q: %q, %d", s, q, err)
		}
		checkRead(t, s)
	}
}

func TestP10_3One(t *testing.T) {
	for s, want := range map[string]api.Errno{
		"": api.ErrForm, plainGet: api.OK, plainGet + plainGet: api.ErrForm, plainGet + "\r\n": api.ErrForm, "\r\n" + plainGet: api.ErrForm, plainGet[1:]: api.OK, plainGet[:len(plainGet)-1]: api.ErrForm, plainGet + "x": api.ErrForm,
		"\r\n\r\n": api.ErrForm, "HTTP/1.1 200 OK\r\n\r\n": api.ErrForm, "HTTP/1.1 200 OK\r\nHost: a\r\n\r\n": api.ErrForm, "GET / HTTP/1.1\r\n\r\n": api.ErrForm,
		strings.Repeat("a", 579): api.ErrLong, chunkedTop + "401\r\n": api.ErrLong, "GET / HTTP/1.1\r\nHost: a\r\nContent-Length: 1025\r\n\r\n": api.ErrLong, "GET / HTTP/1.1\r\n" + strings.Repeat("a: b\r\n", 25): api.ErrFull, plainGet + strings.Repeat("a", 579): api.ErrLong,
		"GET / HTTP/1.1\r\nHost: " + letters64[:61] + ":80\r\n\r\n": api.OK, "GET / HTTP/1.1\r\nHost: " + letters64[:62] + ":80\r\n\r\n": api.ErrForm, "CONNECT " + letters64[:61] + ":80 HTTP/1.1\r\nHost: a\r\n\r\n": api.OK, "CONNECT " + letters64[:62] + ":80 HTTP/1.1\r\nHost: a\r\n\r\n": api.ErrForm,
		"GET / HTTP/1.0\r\nHost: a\r\n\r\n" + strings.Repeat("a", 579): api.ErrLong, "GET / HTTP/1.0\r\nHost: a\r\n\r\n": api.ErrForm,
	} {
		if q, err := request.One([]byte(s)); err != want || (text(q) == text(api.Request{})) != (want != api.OK) {
			t.Errorf("%.200q: %.200q, %d", s, q, err)
		}
		checkRead(t, s)
	}
}

func TestP10_3Methods(t *testing.T) {
	for _, s := range []string{"GET", "POST", "A", "Z", "HEAD", "OPTIONS", "PATCH", "CONNEC", "CONNECTS", method16, method16[:15], method16[1:], strings.Repeat("Z", 16)} {
		checkFirst(t, s+" / HTTP/1.1", true)
	}
	for _, s := range []string{"", "get", "Get", "GeT", "GET ", " GET", "G T", "G\tT", "\tGET", "GET\t", "GET1", "M-SEARCH", "G_T", "G.T", "@", "[", "GET\x00", "\x00GET", "GET,POST", "\u00c0", "\u212aEY", "GE\uff34", "GET\u00a0", "\xffGET", "G\xc1T", method16 + "A", strings.Repeat("A", 17), strings.Repeat("A", 272), strings.Repeat("A", 1<<20), "*", "/"} {
		checkFirst(t, s+" / HTTP/1.1", false)
	}
	for x := range 256 {
		c := string([]byte{byte(x)})
		for _, s := range []string{c, "A" + c, c + "A", "GE" + c + "T"} {
			checkFirst(t, s+" / HTTP/1.1", 'A' <= x && x <= 'Z')
		}
	}
	for n := range 300 {
		checkFirst(t, strings.Repeat("A", n)+" / HTTP/1.1", n >= 1 && n <= 16)
	}
}

func TestP10_3FirstLines(t *testing.T) {
	for _, s := range []string{"GET / HTTP/1.1", "GET /a HTTP/1.1", "A /? HTTP/1.1", "GET " + target512 + " HTTP/1.1", method16 + " " + target512 + " HTTP/1.1"} {
		checkFirst(t, s, true)
	}
	for _, s := range []string{
		"", " ", "  ", "GET", "GET ", "GET /", "GET / ", "GET /HTTP/1.1", "GET HTTP/1.1", "GET  HTTP/1.1", "/ HTTP/1.1", " / HTTP/1.1", "  HTTP/1.1", "HTTP/1.1", "GET  / HTTP/1.1", "GET /  HTTP/1.1", "GET / HTTP/1.1 ", " GET / HTTP/1.1", "GET / HTTP/1.1 HTTP/1.1", "GET / a HTTP/1.1", "GET /a b HTTP/1.1",
		"GET\t/ HTTP/1.1", "GET /\tHTTP/1.1", "GET / HTTP/1.1\t", "GET / HTTP/1.1\r", "GET / HTTP/1.1\n", "GET / HTTP/1.1\r\n", "\r\nGET / HTTP/1.1", "GET / HTTP/1.1\x00",
		"GET / HTTP/1.0", "GET / HTTP/1.2", "GET / HTTP/2", "GET / HTTP/2.0", "GET / HTTP/0.9", "GET / http/1.1", "GET / Http/1.1", "GET / HTTP/1.11", "GET / HTTP/01.1", "GET / HTTP/1.01", "GET / HTTP/1,1", "GET / HTTP/1", "GET / HTTP/1.", "GET / HTTP1.1", "GET / HTTPS/1.1", "GET / HTTP /1.1", "GET / XHTTP/1.1", "GET / HTTP/1.1x", "GET / \uff28TTP/1.1",
		"GET a HTTP/1.1", "GET * HTTP/1.1", "OPTIONS * HTTP/1.1", "GET http://a/ HTTP/1.1", "GET a.b:80 HTTP/1.1", "GET ?a HTTP/1.1", "GET /.. HTTP/1.1", "GET /%2f HTTP/1.1", "GET /%00 HTTP/1.1", "GET /a\\b HTTP/1.1", "GET /a#b HTTP/1.1", "GET /% HTTP/1.1", "GET /\u00e9 HTTP/1.1", "GET /\x00 HTTP/1.1", "GET " + target512 + "a HTTP/1.1", "GET /?% HTTP/1.1",
	} {
		checkFirst(t, s, false)
	}
	for _, s := range []string{"GET / HTTP/1.1", "CONNECT a:1 HTTP/1.1"} {
		for near := range probe.Near(s) {
			checkOf(t, api.Raw{Start: near, Heads: row("host", "a")})
		}
	}
}

// goodHosts are hosts, by the words, of up to 64 bytes; hasPort tells of each whether it has a port.
func goodHosts() (l []string, hasPort []bool) {
	for _, s := range []string{"a", "z", "0", "9", ".", "-", "a.b", "..", "--", "-.-", "10.0.0.1", "web-1.shop", "999.999", letters64, letters64[:63], strings.Repeat("a", 64), strings.Repeat(".", 64)} {
		l, hasPort = append(l, s), append(hasPort, false)
		for _, port := range []string{"1", "9", "10", "80", "443", "8080", "9999", "10000", "65534", "65535"} {
			l, hasPort = append(l, withPort(s, port)), append(hasPort, true)
		}
	}
	return l, hasPort
}

// badHosts are texts that are no hosts, even in small letters.
func badHosts() []string {
	return []string{
		"", ":", ":80", "a:", "a:0", "a:00", "a:080", "a:01", "a:65536", "a:65537", "a:70000", "a:99999", "a:100000", "a:4294967376", "a:18446744073709551696", "a:99999999999999999999999", "a:+80", "a:-80", "a: 80", "a:80 ", "a :80", "a:8 0", "a:80:80", "a::80", "a:b", "a:8b", "a:0x50", "a:8_0", "a:80.0", "a:8e1", "a:\u0661", "a:80\x00", "a:80\n", "a:80/",
		" a", "a ", "a b", "\ta", "a\t", "a\n", "a\r\n", "\x00", "a\x00", "\x00a", "a\x7f", "a_b", "_", "a/b", "/", "a/", "a?b", "a#b", "a@b", "@a", "u:p@a", "a,b", "a;b", "a*b", "*", "*.a", "a%41", "%", "[::1]", "[::1]:80", "::1", "a!b", "~", "(a)", "a'b", "a\"b", "a\\b", "{a}", "a|b", "a+b", "a=b", "a&b", "a$b", "`", "^",
		"\u00e9", "a\u00e9", "\u212a", "\u212aa.b", "a.\u212a:80", "\u017f", "\u0130", "a\u0130b", "\uff41", "\u0430", "a\u3002b", "a\uff0eb", "\u00ad", "a\u200bb", "\ufeffa", "\ufffd", "\xff", "a\xff", "\xc1\xa1", "a\xe2\x84", "\U0001d41a", "a:\uff18",
		letters64[:63] + ":1", letters64[:62] + ":80", letters64[:63] + ":80", letters64 + ":80", letters64[:59] + ":65535", letters64 + ":65535", letters64[:63] + ":", letters64 + ":",
		letters64 + "a", "a" + letters64, letters64 + ".", letters64 + "a:80", strings.Repeat("a", 65), strings.Repeat("a", 128), strings.Repeat("a", 256+7), strings.Repeat("a", 1<<16+7), strings.Repeat("a", 1<<20), strings.Repeat("a.", 40) + ":80", "a:" + strings.Repeat("8", 100000), "a:" + strings.Repeat("0", 100000) + "80",
	}
}

func TestP10_3Hosts(t *testing.T) {
	host := func(l ...string) api.Raw {
		r := api.Raw{Start: "GET / HTTP/1.1"}
		for _, s := range l {
			r.Heads = append(r.Heads, api.Head{Name: "host", Value: s})
		}
		return r
	}
	good, _ := goodHosts()
	for _, s := range good {
		for _, x := range []string{s, high(s), high(s[:1]) + s[1:]} {
			q, err := request.Of(host(x))
			if err != api.OK || q.Host != s || text(q.Heads) != text(row("host", x)) || !checkOf(t, host(x)) {
				t.Errorf("host %q: %q, %d", x, q, err)
			}
			if checkOf(t, host(x, x)) || checkOf(t, host(x, "")) || checkOf(t, host("", x)) || checkOf(t, host(x, "a", "b")) {
				t.Errorf("host %q, and another one: a request", x)
			}
		}
	}
	for _, s := range badHosts() {
		if checkOf(t, host(s)) || checkOf(t, host(high(s))) || checkOf(t, host("a", s)) {
			t.Errorf("host %.200q: a request", s)
		}
	}
	// Which header is the host: by its name, as that is.
	for _, name := range []string{"Host", "HOST", "host ", " host", "hos", "hosts", "x-host", "", ":authority", "ho\u017ft", "host\x00"} {
		r := api.Raw{Start: "GET / HTTP/1.1", Heads: row(name, "a")}
		if checkOf(t, r) {
			t.Errorf("the header %q: a request", name)
		}
		r.Heads = append(r.Heads, row("a", "b", "host", "c", name, "d")...)
		if q, err := request.Of(r); err != api.OK || q.Host != "c" || !checkOf(t, r) {
			t.Errorf("beside the header %q: %q, %d", name, q, err)
		}
	}
	checkOf(t, host())
	checkOf(t, host(slices.Repeat([]string{"a"}, 10000)...))
}

func TestP10_3Connect(t *testing.T) {
	good, hasPort := goodHosts()
	for i, s := range good {
		for _, x := range []string{s, high(s)} {
			checkFirst(t, "CONNECT "+x+" HTTP/1.1", hasPort[i])
			q, err := request.Of(api.Raw{Start: "CONNECT " + x + " HTTP/1.1", Heads: row("host", "Other.Host")})
			if hasPort[i] && (err != api.OK || q.Target != x || q.Path != "" || q.Query != "" || q.Host != "other.host") {
				t.Errorf("CONNECT %q: %q, %d", x, q, err)
			}
			checkFirst(t, "GET "+x+" HTTP/1.1", false)
		}
	}
	for _, s := range append(badHosts(), "/", "/a", "/a:80", "/?a:80", "*", "a.b:80/", "a.b:80?x", "http://a.b:80", "a:80 a:80") {
		checkFirst(t, "CONNECT "+s+" HTTP/1.1", false)
	}
	checkFirst(t, "CONNECTS a.b:80 HTTP/1.1", false)
	checkFirst(t, "CONNECTS / HTTP/1.1", true)
	checkFirst(t, "ONNECT / HTTP/1.1", true)
	checkFirst(t, "connect a.b:80 HTTP/1.1", false)
}

// The fields of a message beside its first line and its host play no part in whether it is a request.
func TestP10_3AnyFields(t *testing.T) {
	for _, l := range [][]api.Head{nil, row("content-length", "7"), row("content-length", "x", "content-length", "y"), row("transfer-encoding", "gzip"), row("A B", "\r\n", "", "", "a", " "), manyHeads(1000), row("x", strings.Repeat("a", 100000))} {
		for _, body := range []string{"", "abc", strings.Repeat("a", 1025), strings.Repeat("a", 100000)} {
			r := api.Raw{Start: "GET /a/.?b HTTP/1.1", Heads: slices.Concat(l, row("host", "A"), l), Body: []byte(body)}
			q, err := request.Of(r)
			want := api.Request{Method: "GET", Target: "/a/.?b", Path: "/a/", Query: "b", Host: "a", Heads: r.Heads, Body: r.Body}
			if text(q) != text(want) || err != api.OK || !checkOf(t, r) {
				t.Errorf("%.200q: %.200q, %d", r, q, err)
			}
			r.Start = "GET /.. HTTP/1.1"
			checkOf(t, r)
		}
	}
}

func TestP10_3Many(t *testing.T) {
	r := rand.New(rand.NewSource(3))
	fine, bad := 0, 0
	for range 5000 {
		want := someRequest(r)
		q, err := request.One([]byte(someSpelling(r, want)))
		if text(q) != text(want) || err != api.OK {
			t.Fatalf("%.700q, %d; want %.700q", q, err, want)
		}
		m := api.Raw{Start: edited(r, want.Method+" "+want.Target+" HTTP/1.1"), Heads: slices.Clone(want.Heads), Body: want.Body}
		i := r.Intn(len(m.Heads))
		m.Heads[i].Value = edited(r, m.Heads[i].Value)
		if checkOf(t, m) {
			fine++
		} else {
			bad++
		}
	}
	if fine < 1000 || bad < 1000 {
		t.Errorf("%d are fine, %d are not: not both often", fine, bad)
	}
}

// The library reads the same of what is a request.
func TestP10_3Library(t *testing.T) {
	r := rand.New(rand.NewSource(4))
	for range 2000 {
		s := someSpelling(r, someRequest(r))
		want, err := request.One([]byte(s))
		q, fault := http.ReadRequest(bufio.NewReader(strings.NewReader(s)))
		if err != api.OK || fault != nil {
			t.Fatalf("%.700q: %d, the library %v", s, err, fault)
		}
		host := want.Host
		if want.Method == "CONNECT" { // there the library takes the target's
			host = low(want.Target)
		}
		body, fault := io.ReadAll(q.Body)
		if fault != nil || q.Method != want.Method || q.RequestURI != want.Target || low(q.Host) != host || string(body) != string(want.Body) || q.Proto != "HTTP/1.1" {
			t.Errorf("%.700q: %.700q; the library has %q, %q, %q, %.200q, %v", s, want, q.Method, q.RequestURI, q.Host, body, fault)
		}
		for _, h := range want.Heads {
			name := http.CanonicalHeaderKey(h.Name)
			if name != "Host" && name != "Transfer-Encoding" && !slices.Equal(q.Header[name], heads.All(h.Name, want.Heads...)) {
				t.Errorf("%.700q: the library has %q: %q", s, name, q.Header[name])
			}
		}
	}
}

func TestP10_4MayHost(t *testing.T) {
	check := func(s string, want bool) {
		t.Helper()
		if may, _ := isHost(s); may != want || request.MayHost(s) != want {
			t.Errorf("MayHost(%.200q): %v, by the words %v", s, request.MayHost(s), may)
		}
	}
	good, _ := goodHosts()
	for _, s := range good {
		check(s, true)
		if large := high(s); large != s {
			check(large, false)
		}
	}
	for _, s := range append(badHosts(), "A", "Z", "aA", "A.b", "a.B:80", "A:80") {
		check(s, false)
	}
	for n := range 100000 {
		check(fmt.Sprintf("a:%d", n), n >= 1 && n <= 65535)
		check(fmt.Sprintf("a:0%d", n), false)
	}
	for n := range 300 {
		check(strings.Repeat("a", n), n >= 1 && n <= 64)
		for _, port := range []string{"1", "80", "8080", "65535"} {
			check(strings.Repeat("a", n)+":"+port, n >= 1 && n+len(":"+port) <= 64)
		}
	}
	for x := range 256 {
		c := string([]byte{byte(x)})
		may := strings.Contains("abcdefghijklmnopqrstuvwxyz0123456789.-", c)
		for _, s := range []string{c, c + "a", "a" + c, "a" + c + "b", c + ":80"} {
			check(s, may)
		}
	}
	fine := 0
	for _, s := range probe.Texts(5, "a", ".", ":", "0", "1", "80", "A", " ", "65535") {
		may, _ := isHost(s)
		check(s, may)
		if may {
			fine++
		}
	}
	if fine < 1000 {
		t.Errorf("%d hosts: too few", fine)
	}
	for _, s := range []string{"a.b:80", "a:65535", letters64, withPort(letters64, "80"), withPort(letters64, "65535")} {
		for near := range probe.Near(s) {
			may, _ := isHost(near)
			check(near, may)
		}
	}
}

func TestP10_4Same(t *testing.T) {
	a := api.Request{Method: "GET", Target: "/a?b", Path: "/a", Query: "b", Host: "c", Heads: row("host", "c", "x", "y"), Body: []byte("abc")}
	change := []func(q *api.Request){
		func(q *api.Request) { q.Method = "PUT" },
		func(q *api.Request) { q.Target = "/b?b" },
		func(q *api.Request) { q.Path = "/b" },
		func(q *api.Request) { q.Query = "" },
		func(q *api.Request) { q.Host = "C" },
		func(q *api.Request) { q.Heads = nil },
		func(q *api.Request) { q.Heads = row("host", "c") },
		func(q *api.Request) { q.Heads = row("x", "y", "host", "c") },
		func(q *api.Request) { q.Heads = row("host", "c", "x", "z") },
		func(q *api.Request) { q.Heads = row("host", "c", "X", "y") },
		func(q *api.Request) { q.Heads = row("host", "c", "x", "y", "x", "y") },
		func(q *api.Request) { q.Body = nil },
		func(q *api.Request) { q.Body = []byte("ab") },
		func(q *api.Request) { q.Body = []byte("abd") },
		func(q *api.Request) { q.Body = []byte("abc\x00") },
	}
	others := []api.Request{a, {}}
	for _, x := range change {
		b := a
		x(&b)
		others = append(others, b)
	}
	for i, x := range others {
		for j, y := range others {
			if request.Same(x, y) != (i == j) {
				t.Errorf("Same(%q, %q): %v", x, y, i != j)
			}
		}
	}
	if !request.Same(api.Request{}, api.Request{Heads: []api.Head{}, Body: []byte{}}) || !request.Same(api.Request{Body: []byte{}}, api.Request{}) {
		t.Error("nil and empty lists are not one")
	}
}

// checkMay tells if the request may be, or has bytes, otherwise than by the words, and answers whether it may.
func checkMay(t *testing.T, q api.Request) bool {
	t.Helper()
	want := isRequest(q)
	if request.May(q) != want {
		t.Errorf("May(%.700q): %v", q, !want)
	}
	wantBytes, wantErr := "", api.ErrArg
	if want {
		wantBytes, wantErr = bytesOf(api.Raw{Start: q.Method + " " + q.Target + " HTTP/1.1", Heads: q.Heads, Body: q.Body}), api.OK
	}
	if b, err := request.Bytes(q); string(b) != wantBytes || err != wantErr {
		t.Errorf("Bytes(%.700q): %.700q, %d; want %.700q, %d", q, b, err, wantBytes, wantErr)
	}
	return want
}

func TestP10_4Bytes(t *testing.T) {
	get := api.Request{Method: "GET", Target: "/a//b?x", Path: "/a/b", Query: "x", Host: "a.b", Heads: row("accept", "*", "host", "A.b", "x", "")}
	post := api.Request{Method: "POST", Target: "/", Path: "/", Host: "a", Heads: row("host", "a", "transfer-encoding", "Chunked"), Body: []byte("0123456789")}
	put := api.Request{Method: "PUT", Target: "/", Path: "/", Host: "a", Heads: row("content-length", "2", "host", "a"), Body: []byte("\r\n")}
	empty, none := post, put
	empty.Body, none.Body, none.Heads = nil, nil, row("content-length", "0", "host", "a")
	host64 := withPort(letters64, "80")
	long := post
	long.Body = []byte(bytes1024)
	for _, x := range []struct {
		q    api.Request
		want string
	}{
		{get, "GET /a//b?x HTTP/1.1\r\naccept: *\r\nhost: A.b\r\nx: \r\n\r\n"},
		{post, "POST / HTTP/1.1\r\nhost: a\r\ntransfer-encoding: Chunked\r\n\r\na\r\n0123456789\r\n0\r\n\r\n"},
		{put, "PUT / HTTP/1.1\r\ncontent-length: 2\r\nhost: a\r\n\r\n\r\n"},
		{empty, "POST / HTTP/1.1\r\nhost: a\r\ntransfer-encoding: Chunked\r\n\r\n0\r\n\r\n"},
		{none, "PUT / HTTP/1.1\r\ncontent-length: 0\r\nhost: a\r\n\r\n"},
		{long, "POST / HTTP/1.1\r\nhost: a\r\ntransfer-encoding: Chunked\r\n\r\n400\r\n" + bytes1024 + "\r\n0\r\n\r\n"},
		{api.Request{Method: "CONNECT", Target: "A.b:80", Host: "c", Heads: row("host", "C")}, "CONNECT A.b:80 HTTP/1.1\r\nhost: C\r\n\r\n"},
		{api.Request{Method: "CONNECT", Target: host64, Host: host64, Heads: row("host", host64)}, "CONNECT " + host64 + " HTTP/1.1\r\nhost: " + host64 + "\r\n\r\n"},
	} {
		if b, err := request.Bytes(x.q); string(b) != x.want || err != api.OK || !request.May(x.q) || !checkMay(t, x.q) {
			t.Errorf("%.200q: %.200q, %d", x.q, b, err)
		}
	}
}

// Of a request that may be, each field made another one: it may not be any more.
func TestP10_4MayNot(t *testing.T) {
	get := api.Request{Method: "GET", Target: "/a//b?x", Path: "/a/b", Query: "x", Host: "a.b", Heads: row("host", "A.b")}
	post := api.Request{Method: "POST", Target: "/", Path: "/", Host: "a", Heads: row("host", "a", "content-length", "3"), Body: []byte("abc")}
	chunks := api.Request{Method: "POST", Target: "/", Path: "/", Host: "a", Heads: row("host", "a", "transfer-encoding", "chunked"), Body: []byte("abc")}
	tunnel := api.Request{Method: "CONNECT", Target: "a:80", Host: "a", Heads: row("host", "a")}
	host65 := letters64[:62] + ":80"
	for i, x := range []struct {
		q      api.Request
		change func(q *api.Request)
	}{
		{api.Request{}, func(q *api.Request) {}},
		{get, func(q *api.Request) { q.Method = "" }},
		{get, func(q *api.Request) { q.Method = "get" }},
		{get, func(q *api.Request) { q.Method = "GET " }},
		{get, func(q *api.Request) { q.Method = "GET /a//b?x HTTP/1.1\r\nhost: a.b\r\n\r\nGET" }},
		{get, func(q *api.Request) { q.Method, q.Target = "GET /a//b?x", "HTTP/1.1" }},
		{get, func(q *api.Request) { q.Method, q.Target = "GET /a//b?x HTTP/1.1", "" }},
		{get, func(q *api.Request) { q.Method, q.Target = "", "GET /a//b?x" }},
		{get, func(q *api.Request) { q.Method = "CONNECT" }},
		{get, func(q *api.Request) { q.Target = "" }},
		{get, func(q *api.Request) { q.Target = "/a/b" }},
		{get, func(q *api.Request) { q.Target = "/a/b?y" }},
		{get, func(q *api.Request) { q.Target = "/a//b?x " }},
		{get, func(q *api.Request) { q.Target = "/a//b?x HTTP/1.1" }},
		{get, func(q *api.Request) { q.Target = "/a//b?x HTTP/1.1\r\nx: y\r\n\r\nGET /" }},
		{get, func(q *api.Request) { q.Path = "/a//b" }},
		{get, func(q *api.Request) { q.Path = "" }},
		{get, func(q *api.Request) { q.Query = "" }},
		{get, func(q *api.Request) { q.Query = "?x" }},
		{get, func(q *api.Request) { q.Host = "" }},
		{get, func(q *api.Request) { q.Host = "A.b" }},
		{get, func(q *api.Request) { q.Host = "b" }},
		{get, func(q *api.Request) { q.Host, q.Heads = host65, row("host", host65) }},
		{get, func(q *api.Request) { q.Heads = nil }},
		{get, func(q *api.Request) { q.Heads = row("Host", "A.b") }},
		{get, func(q *api.Request) { q.Heads = row("host", "A.b ") }},
		{get, func(q *api.Request) { q.Heads = row("host", "A.b", "host", "A.b") }},
		{get, func(q *api.Request) { q.Heads = row("host", "A.b", "X", "y") }},
		{get, func(q *api.Request) { q.Heads = row("host", "A.b", "x", "y\r\nz: a") }},
		{get, func(q *api.Request) { q.Heads = row("host", "A.b", "", "") }},
		{get, func(q *api.Request) { q.Heads = row("host", "A.b", "x", value512+"a") }},
		{get, func(q *api.Request) { q.Heads = append(row("host", "A.b"), manyHeads(24)...) }},
		{get, func(q *api.Request) { q.Heads = row("host", "A.b", "content-length", "1") }},
		{get, func(q *api.Request) { q.Heads = row("host", "A.b", "content-length", "00") }},
		{get, func(q *api.Request) { q.Heads = row("host", "A.b", "transfer-encoding", "gzip") }},
		{get, func(q *api.Request) { q.Body = []byte("a") }},
		{post, func(q *api.Request) { q.Body = nil }},
		{post, func(q *api.Request) { q.Body = []byte("ab") }},
		{post, func(q *api.Request) { q.Body = []byte("abcd") }},
		{post, func(q *api.Request) { q.Heads = append(slices.Clone(q.Heads), row("transfer-encoding", "chunked")...) }},
		{post, func(q *api.Request) { q.Heads = append(slices.Clone(q.Heads), row("content-length", "3")...) }},
		{post, func(q *api.Request) { q.Heads, q.Body = row("host", "a", "content-length", "1025"), make([]byte, 1025) }},
		{chunks, func(q *api.Request) { q.Body = make([]byte, 1025) }},
		{chunks, func(q *api.Request) { q.Body = make([]byte, 1<<20) }},
		{tunnel, func(q *api.Request) { q.Path = "/" }},
		{tunnel, func(q *api.Request) { q.Query = "a" }},
		{tunnel, func(q *api.Request) { q.Target = "a" }},
		{tunnel, func(q *api.Request) { q.Target = host65 }},
		{tunnel, func(q *api.Request) { q.Target, q.Path = "/", "/" }},
		{tunnel, func(q *api.Request) { q.Method = "GET" }},
	} {
		if i > 0 && !checkMay(t, x.q) {
			t.Fatalf("%d: %q may not be", i, x.q)
		}
		x.change(&x.q)
		if b, err := request.Bytes(x.q); request.May(x.q) || len(b) != 0 || err != api.ErrArg || checkMay(t, x.q) {
			t.Errorf("%d: %.200q: %.200q, %d", i, x.q, b, err)
		}
	}
}

func TestP10_4MayMany(t *testing.T) {
	r := rand.New(rand.NewSource(5))
	fine, bad := 0, 0
	for range 5000 {
		q := someRequest(r)
		if !checkMay(t, q) {
			t.Fatalf("%.700q may not be", q)
		}
		for _, s := range []*string{&q.Method, &q.Target, &q.Path, &q.Query, &q.Host, &q.Heads[0].Name, &q.Heads[0].Value} {
			if r.Intn(4) == 0 {
				*s = edited(r, *s)
			}
		}
		if r.Intn(4) == 0 {
			q.Body = []byte(edited(r, string(q.Body)))
		}
		if checkMay(t, q) {
			fine++
		} else {
			bad++
		}
	}
	if fine < 1000 || bad < 1000 {
		t.Errorf("%d may be, %d may not: not both often", fine, bad)
	}
}
